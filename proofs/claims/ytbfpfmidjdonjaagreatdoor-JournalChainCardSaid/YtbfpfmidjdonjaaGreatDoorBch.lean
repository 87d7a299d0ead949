/- Put together: Jll, Jch, Jchain. Conditions: each theorem's own. -/
import Derived.Test.YtbfpfmidjdonjaaGreatDoorBjc
import Derived.Test.YtbfpfmidjdonjaaGreatDoorBpk
import Derived.Test.YtbfpfmidjdonjaaGreatDoorIArg
import Derived.IntWalk
import Derived.Laws.BitsLemmas
import Derived.Test.YtbfpfmidjdonjaaGreatDoorRun
import Derived.Test.YtbfpfmidjdonjaaGreatDoorBrs
import Derived.Test.YtbfpfmidjdonjaaGreatDoorBga
import Derived.Test.YtbfpfmidjdonjaaGreatDoorKref3
namespace Go.Proofs.YtbfpfmidjdonjaaGreatDoor
open Go Go.RowKit

theorem Safe.jok {ts : List ByteArray} {d : Dk} {J : Jn} (h : Safe ts d J) (hl : ts.length ≤ 999000) {m : Int} (hm : m = (d.kept.length : Int) - 2) : JOk ts d m J :=
  ⟨⟨by have := h.calm.three; omega, h.calm.few, h.calm.sz, fun x hx => by rw [h.calm.dry] at hx; cases hx⟩, hm, by have := h.calm.three; omega, by omega, by rw [h.calm.dry]; simp, h.fits⟩
section
variable {w0 w W : World} {C : Ass}
theorem At.drop2 {A R : Ass} (h : At w0 (A.star (R.star C)) w) : At w0 (A.star C) w := (h.imp (Ass.imp.swap _ _ _)).drop
theorem At.drop3 {A B R : Ass} (h : At w0 (A.star (B.star (R.star C))) w) : At w0 (A.star (B.star C)) w := (h.imp (Ass.imp.up2 _ _ _ _)).drop
theorem At.erow0E (h : At w0 C w) : At w0 ((rowE TE 8 (.slice Option.none 0 0) ([] : List Ev).length (ecells [])).star C) w := h.erow0 TE 8
/-- One event laid behind a row. -/
theorem app_evA {ops : Array Oper} {rest : List Oper} {o : Oper} {a : Act} {Q : Exit → Act → World → Prop} (hC : C.Good) (hgd : o.guard = Option.none) (s x : Operand)
    (ho : o.op = .call { callee := .builtin .append, args := #[s, x], argTypes := #[36, 36] }) (ao : Option Addr) (n cap : Nat) (es : List Ev) (e : Ev) (hs : a.eval s = .slice ao n cap) (hx : a.eval x = .slice (some ⟨W.heap.size, 0, Option.none⟩) 1 1)
    (hS : At w0 ((rowE TE 8 (.slice ao n cap) es.length (ecells es)).star C) W) (hn : es.length ≤ 1000) (h : ∀ a2 c2 w', At w0 ((rowE TE 8 (.slice a2 (n + 1) c2) (es ++ [e]).length (ecells (es ++ [e]))).star C) w' → wpList Tryz.prog ops Q rest (a.put o.dst (.slice a2 (n + 1) c2)) w') :
    wpList Tryz.prog ops Q (o :: rest) a (W.alloc (.cells e.cs.toArray 61)) := by
  obtain ⟨v', w2, hrun, hrow, hgr, hnil, hlo⟩ := run_app_ev (es := [e]) o.type es (hS.erow.alloc (.cells e.cs.toArray TE)) (some ⟨W.heap.size, 0, none⟩) 1 1 rfl (by omega) (.inr ⟨_, _, rfl, EsAt.new W e⟩)
  have hlen : n = es.length := by
    obtain ⟨a3, c3, e3⟩ := rowE_shape hS.erow
    simp at e3
    exact e3.2.1
  obtain ⟨a2, c2, rfl⟩ := rowE_shape hrow
  rw [← hlen] at hrun hrow hlo
  refine app_ev hgd s x ho hs hx hrun (h a2 c2 w2 ?_)
  have hg := (World.grownBy_alloc W (.cells e.cs.toArray TE) _).trans hgr
  refine hS.appendedE hC hg ?_ ?_
  · rw [ecells_app, List.length_append, ← hlen]
    exact hrow
  · rcases hlo with c | c
    · exact .inl c
    · exact .inr ⟨_, by simp, c⟩
end
/-- Spent tickets in a row, from s on. -/
def spL (s : Int) : Nat → List Ev
  | 0 => []
  | k + 1 => spL s k ++ [spE (s + k)]
theorem spL_len (s : Int) (k : Nat) : (spL s k).length = k := by
  induction k with
  | zero => rfl
  | succ k ih => rw [spL, List.length_append, ih]; rfl
theorem spL_may {s : Int} {k : Nat} (h1 : 0 ≤ s) (h2 : s + k ≤ 1073741823) : ∀ e ∈ spL s k, e.may = true := by
  induction k with
  | zero => intro e he; cases he
  | succ k ih =>
    intro e he
    rcases List.mem_append.1 he with c | c
    · exact ih (by omega) e c
    · simp at c; subst c; exact spE_may (by omega) (by omega)
end Go.Proofs.YtbfpfmidjdonjaaGreatDoor

namespace Go.Proofs.YtbfpfmidjdonjaaGreatDoor
open Go

/-- A book's terms: each may be one, each stands once. -/
def TOk (T : List ByteArray) : Prop := T.Nodup ∧ ∀ t ∈ T, okT t = true
theorem TOk.nil : TOk [] := ⟨List.nodup_nil, fun _ h => by cases h⟩
theorem TOk.nm {T : List ByteArray} (h : TOk T) (most : Int) (t : ByteArray) : TOk (nmT most T t) := by
  unfold nmT
  split
  · rename_i hk
    split
    · exact h
    · rename_i hi
      have hi' : t ∉ T := fun c => hi ((isB_iff _ _).2 c)
      split
      · refine ⟨List.nodup_append.2 ⟨h.1, by simp, fun a ha b hb => by simp at hb; subst hb; exact fun e => hi' (e ▸ ha)⟩, fun u hu => ?_⟩
        rcases List.mem_append.1 hu with c | c
        · exact h.2 u c
        · simp at c; subst c; exact hk
      · exact h
  · exact h
theorem TOk.su {T : List ByteArray} (h : TOk T) (most b : Int) : TOk (suT most T b) := by
  unfold suT
  split
  · exact h.nm most _
  · exact h
theorem TOk.rc {T : List ByteArray} (h : TOk T) (most : Int) (r : Rc) : TOk (rcT most T r) := by
  unfold rcT
  split
  · exact h.nm most _
  · exact h
theorem TOk.jpGo {most b : Int} {es : List Ev} {T : List ByteArray} {n : Nat} {l : Int} (h : TOk T) : TOk (jpGo most b T n l es).1 := by
  induction es generalizing T n l with
  | nil => exact h
  | cons e es ih =>
    unfold Go.Proofs.YtbfpfmidjdonjaaGreatDoor.jpGo
    split
    · exact ih (h.rc most _)
    · exact h.rc most _
theorem TOk.open {most : Int} {T : List ByteArray} {d : Dk} (h : TOk T) : TOk (joT most T d) := by
  unfold joT
  split
  · exact h
  · split
    · exact h
    · exact h.su most _
theorem TOk.app {most : Int} {T : List ByteArray} {J : Jn} {d : Dk} {es : List Ev} (h : TOk T) : TOk (jpT most T J d es) := by
  unfold jpT
  split
  · exact h
  · split
    · exact h
    · split
      · exact h
      · exact h.jpGo
/-- Named in turn, they are the same row. -/
theorem TOk.again {T : List ByteArray} (h : TOk T) (hl : T.length ≤ 65536) {k : Nat} (hk : k < T.length) : nmT 65536 (T.take k) (T.getD k ⟨#[]⟩) = T.take (k + 1) := by
  have hg : T.getD k ⟨#[]⟩ = T[k] := by simp [List.getD, hk]
  rw [hg]
  have hmem : T[k] ∈ T := List.getElem_mem hk
  have hno : T[k] ∉ T.take k := fun c => by
    obtain ⟨j, hj, e⟩ := List.mem_iff_getElem.1 c
    rw [List.getElem_take] at e
    have hj' : j < k := by rw [List.length_take] at hj; omega
    have h1 := idx_at h.1 (i := k) (List.getElem?_eq_getElem hk)
    have h2 := idx_at h.1 (i := j) (t := T[k]) (by rw [List.getElem?_eq_getElem (by omega), e])
    omega
  unfold nmT
  rw [if_pos (h.2 _ hmem), if_neg (by rw [(isB_not _ _).2 hno]; simp), if_pos (by rw [List.length_take]; omega)]
  exact (List.take_succ_eq_append_getElem hk).symm
theorem TOk.term {T : List ByteArray} {k : Nat} (hk : k < T.length) : tmS T (k : Int) = T.getD k ⟨#[]⟩ ∧ tmE T (k : Int) = 0 := by
  unfold tmS tmE
  rw [if_pos (by omega), if_pos (by omega)]
  exact ⟨by simp, rfl⟩
theorem TOk.small {T : List ByteArray} (h : TOk T) {k : Nat} (hk : k < T.length) : (T.getD k ⟨#[]⟩).size ≤ 512 := by
  have hg : T.getD k ⟨#[]⟩ = T[k] := by simp [List.getD, hk]
  rw [hg]
  exact ((okT_iff _).1 (h.2 _ (List.getElem_mem hk))).2

/-- A chain, and the boots of its records. -/
def ChB (ts : List ByteArray) : List ByteArray → Nat → Int → List Int → Int → Prop
  | _, _, l, [], l' => l' = l
  | [], _, _, _ :: _, _ => False
  | s :: r, n, l, b :: bs, l' => ∃ x, rgOk ts s ((n : Int) + 1) l = some x ∧ x.1.boot = b ∧ ChB ts r (n + 1) x.2 bs l'
theorem ChB.nil {ts L : List ByteArray} {n : Nat} {l l' : Int} : ChB ts L n l [] l' ↔ l' = l := by cases L <;> rfl
theorem ChB.keep {ts ts' : List ByteArray} (hg : Grow ts ts') {bs : List Int} {L : List ByteArray} {n : Nat} {l l' : Int} (h : ChB ts L n l bs l') : ChB ts' L n l bs l' := by
  induction bs generalizing L n l with
  | nil => rw [ChB.nil] at h ⊢; exact h
  | cons b bs ih =>
    cases L with
    | nil => exact h.elim
    | cons s r =>
      obtain ⟨x, hx, he, hc⟩ := h
      exact ⟨x, rgOk_keep hx hg, he, ih hc⟩
theorem ChB.on {ts : List ByteArray} {bs : List Int} {L M : List ByteArray} {n : Nat} {l l' : Int} (h : ChB ts L n l bs l') (hm : M.take bs.length = L.take bs.length) : ChB ts M n l bs l' := by
  induction bs generalizing L M n l with
  | nil => rw [ChB.nil] at h ⊢; exact h
  | cons b bs ih =>
    cases L with
    | nil => exact h.elim
    | cons s r =>
      cases M with
      | nil => simp at hm
      | cons t q =>
        simp only [List.length_cons, List.take_succ_cons, List.cons.injEq] at hm
        obtain ⟨rfl, hm⟩ := hm
        obtain ⟨x, hx, he, hc⟩ := h
        exact ⟨x, hx, he, ih hc hm⟩
theorem ChB.app {ts : List ByteArray} {bs cs : List Int} {A B : List ByteArray} {n : Nat} {l l1 l2 : Int} (h : ChB ts A n l bs l1) (hl : A.length = bs.length) (g : ChB ts B (n + bs.length) l1 cs l2) : ChB ts (A ++ B) n l (bs ++ cs) l2 := by
  induction bs generalizing A n l with
  | nil =>
    rw [ChB.nil] at h
    subst h
    have : A = [] := List.length_eq_zero_iff.1 hl
    subst this
    exact g
  | cons b bs ih =>
    cases A with
    | nil => exact h.elim
    | cons s r =>
      obtain ⟨x, hx, he, hc⟩ := h
      refine ⟨x, hx, he, ih hc (by simpa using hl) ?_⟩
      rw [show n + 1 + bs.length = n + (b :: bs).length by simp only [List.length_cons]; omega]
      exact g
/-- The record at the head of the rest. -/
theorem ChB.head {ts : List ByteArray} {bs : List Int} {L : List ByteArray} {i : Nat} {l l' : Int} (h : ChB ts (L.drop i) i l (bs.drop i) l') (hi : i < bs.length) : ∃ x, rgOk ts (L.getD i ⟨#[]⟩) ((i : Int) + 1) l = some x ∧ x.1.boot = bs.getD i 0 ∧ ChB ts (L.drop (i + 1)) (i + 1) x.2 (bs.drop (i + 1)) l' := by
  rw [List.drop_eq_getElem_cons hi] at h
  cases hL : L.drop i with
  | nil => rw [hL] at h; exact h.elim
  | cons s r =>
    rw [hL] at h
    obtain ⟨x, h1, h2, h3⟩ := h
    have hlt : i < L.length := by
      rcases Nat.lt_or_ge i L.length with c | c
      · exact c
      · rw [List.drop_eq_nil_of_le c] at hL; cases hL
    rw [List.drop_eq_getElem_cons hlt] at hL
    injection hL with e1 e2
    refine ⟨x, ?_, ?_, ?_⟩
    · rw [show L.getD i ⟨#[]⟩ = L[i] by simp [List.getD, hlt], e1]; exact h1
    · rw [show bs.getD i 0 = bs[i] by simp [List.getD, hi]]; exact h2
    · rw [e2]; exact h3
/-- What the law keeps of its journal. -/
structure Chn (T : List ByteArray) (D : Dk) (J : Jn) (bs : List Int) : Prop where
  safe : Safe T D J
  tok : TOk T
  len : J.all.length = bs.length
  chb : ChB T (D.kept.drop 2) 0 0 bs J.last
  zero : ∀ x, 2 + bs.length ≤ x → x < 50 → D.kept.getD x ⟨#[]⟩ = zer64
  fifty : D.kept.length = 50
/-- One event appended. -/
theorem Chn.append {T : List ByteArray} {D : Dk} {J : Jn} {bs : List Int} (h : Chn T D J bs) (hn : bs.length ≤ 30) (hT : T.length ≤ 100) (hb : J.boot ≤ 100) {i : Nat} (hi : i ≤ 100) :
    jpE 65536 T J D [spE (i : Int)] = 0 ∧ (apJ 65536 T J D [spE (i : Int)]).boot = J.boot ∧ (jpT 65536 T J D [spE (i : Int)]).length ≤ T.length + 1 ∧ Chn (jpT 65536 T J D [spE (i : Int)]) (apD 65536 T J D [spE (i : Int)]) (apJ 65536 T J D [spE (i : Int)]) (bs ++ [J.boot]) := by
  have hmay : ∀ e ∈ [spE (i : Int)], e.may = true := fun e he => by simp at he; subst he; exact spE_may (by omega) (by omega)
  have h50 := h.fifty
  have hlen := h.len
  have hr : 2 + J.all.length + [spE (i : Int)].length ≤ D.kept.length := by rw [h50, hlen]; show 2 + bs.length + 1 ≤ 50; omega
  have hro : ((T.length + [spE (i : Int)].length : Nat) : Int) ≤ 65536 := by show ((T.length + 1 : Nat) : Int) ≤ 65536; omega
  have hl : T.length + [spE (i : Int)].length ≤ 1000000 := by show T.length + 1 ≤ 1000000; omega
  obtain ⟨e1, e2, e3, e4, e5, e6, e7⟩ := h.safe.append (most := 65536) [spE (i : Int)] hmay hr hro hl (by omega)
  obtain ⟨ss, l', p⟩ := h.safe.put (most := 65536) [spE (i : Int)] hmay hr hro hl (by omega)
  have hup := h.safe.calm.up
  obtain ⟨w1, w2, w3, w4⟩ := wrAll_yes ss D (2 + J.all.length) hup (by rw [p.ssl]; exact hr) p.ssz
  have eD : apD 65536 T J D [spE (i : Int)] = ⟨setAll D.kept (2 + J.all.length) ss, [], false⟩ := by
    unfold apD
    rw [if_pos p.ok, p.s]
    unfold Dk.fl
    rw [w2, if_neg (by decide), w3, Dk.see_dry h.safe.calm.dry]
  have eJ : apJ 65536 T J D [spE (i : Int)] = ⟨J.boot, l', J.all ++ [spE (i : Int)], J.over⟩ := by unfold apJ; rw [if_pos p.ok, p.l]
  have hlast : (apJ 65536 T J D [spE (i : Int)]).last = l' := by rw [eJ]
  have hone : ChB (jpT 65536 T J D [spE (i : Int)]) ss J.all.length J.last [J.boot] l' := by
    have hrun := p.run
    have hlen2 : (jpT 65536 T J D [spE (i : Int)]).length ≤ 1000000 := by rw [e5]; exact hl
    have hg : Grow (jpGo 65536 J.boot T J.all.length J.last [spE (i : Int)]).1 (jpT 65536 T J D [spE (i : Int)]) := by rw [p.t]; exact Grow.refl _
    generalize jpT 65536 T J D [spE (i : Int)] = T2 at *
    unfold Go.Proofs.YtbfpfmidjdonjaaGreatDoor.jpGo at hrun hg
    split at hrun
    · rename_i hE
      rw [if_pos hE] at hg
      simp only [Go.Proofs.YtbfpfmidjdonjaaGreatDoor.jpGo, Option.map_some, Option.some.injEq, Prod.mk.injEq] at hrun hg
      obtain ⟨rfl, rfl⟩ := hrun
      exact ⟨_, rgOk_put hE hg hlen2, rfl, rfl⟩
    · cases hrun
  have hsl : 2 + J.all.length + ss.length ≤ D.kept.length := by rw [p.ssl]; exact hr
  have hgr : Grow T (jpT 65536 T J D [spE (i : Int)]) := by rw [p.t]; exact p.grow
  refine ⟨e1, e3, by rw [e5]; exact Nat.le_refl _, e6, h.tok.app, by rw [e2, List.length_append, List.length_append, hlen]; rfl, ?_, fun x hx hx2 => ?_, by rw [e4, h50]⟩
  · rw [hlast, eD]
    show ChB _ ((setAll D.kept (2 + J.all.length) ss).drop 2) 0 0 (bs ++ [J.boot]) l'
    rw [setAll_drop hsl (by omega), show 2 + J.all.length - 2 = bs.length by omega]
    have h1 : ChB (jpT 65536 T J D [spE (i : Int)]) ((D.kept.drop 2).take bs.length) 0 0 bs J.last := (h.chb.keep hgr).on (by rw [List.take_take, Nat.min_self])
    refine h1.app (by rw [List.length_take, List.length_drop]; omega) ?_
    rw [Nat.zero_add, ← hlen]
    exact hone.on (by rw [List.take_append_of_le_length (by rw [p.ssl]; exact Nat.le_refl _)])
  · rw [List.length_append] at hx
    have hx' : 2 + bs.length + 1 ≤ x := hx
    have := e7 (x - 2) (by rw [hlen]; show bs.length + 1 ≤ x - 2; omega)
    rw [show 2 + (x - 2) = x by omega] at this
    rw [this]
    exact h.zero x (by omega) hx2
/-- Opened anew. -/
theorem Chn.again {T : List ByteArray} {D : Dk} {J : Jn} {bs : List Int} (h : Chn T D J bs) (hT : T.length ≤ 100) (hb : J.boot ≤ 100) :
    joE 65536 T D = 0 ∧ (joJ 65536 T D).boot = J.boot + 1 ∧ (joT 65536 T D).length ≤ T.length + 1 ∧ Chn (joT 65536 T D) (joD 65536 T D) (joJ 65536 T D) bs := by
  obtain ⟨y1, y2, y3, y4, y5, y6⟩ := h.safe.reopen (most := 65536) (by omega) (by omega) (by omega)
  obtain ⟨_, _, q3, _, _, q6, _, _⟩ := h.safe.calm.opened (most := 65536) (by omega) (by omega) (by omega)
  refine ⟨y1, by rw [y2], y3, y6, h.tok.open, by rw [y2]; exact h.len, ?_, fun x hx hx2 => ?_, by rw [y4, h.fifty]⟩
  · rw [y2, q6, q3]
    exact h.chb.keep (Grow.su _ _ _)
  · rw [y5 x (by omega)]
    exact h.zero x hx hx2
/-- From the beginning. -/
theorem Chn.start : joE 65536 [] (Dk.new 50) = 0 ∧ (joJ 65536 [] (Dk.new 50)).boot = 1 ∧ (joT 65536 [] (Dk.new 50)).length ≤ 1 ∧ Chn (joT 65536 [] (Dk.new 50)) (joD 65536 [] (Dk.new 50)) (joJ 65536 [] (Dk.new 50)) [] := by
  obtain ⟨s1, s2, s3, s4, s5, s6⟩ := start_safe (most := 65536) (n := 50) (by decide) (by decide) (by decide)
  exact ⟨s1, by rw [s2], s4, s3, TOk.nil.open, by rw [s2]; rfl, ChB.nil.2 (by rw [s2]), fun x hx hx2 => s6 x hx hx2, s5⟩
/-- What the reference reads. -/
theorem Chn.read {T : List ByteArray} {D : Dk} {J : Jn} {bs : List Int} {i : Nat} (hi : i < bs.length) {l : Int} (hc : ChB T ((D.kept.drop 2).drop i) i l (bs.drop i) J.last) :
    ∃ r own, rgR T (D.kept.getD (2 + i) ⟨#[]⟩) ((i : Int) + 1) l = r ∧ rgN T (D.kept.getD (2 + i) ⟨#[]⟩) ((i : Int) + 1) l = own ∧ rgE T (D.kept.getD (2 + i) ⟨#[]⟩) ((i : Int) + 1) l = 0 ∧ r.boot = bs.getD i 0 ∧ ChB T ((D.kept.drop 2).drop (i + 1)) (i + 1) own (bs.drop (i + 1)) J.last := by
  obtain ⟨x, h1, h2, h3⟩ := hc.head hi
  have e : (D.kept.drop 2).getD i ⟨#[]⟩ = D.kept.getD (2 + i) ⟨#[]⟩ := by simp [List.getD]
  rw [e] at h1
  obtain ⟨k1, k2, k3⟩ := rgOk_yes h1
  exact ⟨x.1, x.2, k2, k3, k1, h2, h3⟩
end Go.Proofs.YtbfpfmidjdonjaaGreatDoor

namespace Go.Proofs.YtbfpfmidjdonjaaGreatDoor
open Go Go.RowKit

abbrev jcl0 : Oper := { dst := some 149, op := Op.move (Operand.tmp 22), type := 40, pos := "deep.go:53", after := #[], guard := none }
abbrev jcl1 : Oper := { dst := some 150, op := Op.call { callee := Callee.value (Operand.func 16), args := #[Operand.tmp 149], argTypes := #[40] }, type := 3, pos := "deep.go:53", after := #[{ on := 0, ground := Ground.data }], guard := none }
abbrev jcl2 : Oper := { dst := some 151, op := Op.binOp BinOp.neq 3 (Operand.tmp 150) (Operand.const (Value.int IntKind.i64 0)) 3, type := 4, pos := "deep.go:53", after := #[{ on := 1, ground := Ground.data }], guard := none }
abbrev jcl3 : Oper := { dst := some 152, op := Op.move (Operand.tmp 151), type := 4, pos := "deep.go:53", after := #[{ on := 2, ground := Ground.data }, { on := 1, ground := Ground.chain }], guard := none }
abbrev jcl4 : Oper := { dst := some 153, op := Op.move (Operand.tmp 25), type := 3, pos := "deep.go:53", after := #[{ on := 3, ground := Ground.guard }], guard := some (3, false) }
abbrev jcl5 : Oper := { dst := some 154, op := Op.binOp BinOp.neq 3 (Operand.tmp 153) (Operand.const (Value.int IntKind.i64 0)) 3, type := 4, pos := "deep.go:53", after := #[{ on := 4, ground := Ground.data }, { on := 3, ground := Ground.guard }], guard := some (3, false) }
abbrev jcl6 : Oper := { dst := some 155, op := Op.pick (Operand.tmp 152) (Operand.const (Value.bool true)) (Operand.tmp 154), type := 4, pos := "deep.go:53", after := #[{ on := 3, ground := Ground.data }, { on := 5, ground := Ground.data }], guard := none }
abbrev jcl7 : Oper := { dst := some 156, op := Op.move (Operand.tmp 155), type := 4, pos := "deep.go:53", after := #[{ on := 6, ground := Ground.data }, { on := 3, ground := Ground.chain }], guard := none }
abbrev jcl8 : Oper := { dst := some 157, op := Op.fieldAddr 74 (Operand.tmp 23) 1, type := 0, pos := "deep.go:53", after := #[{ on := 7, ground := Ground.guard }], guard := some (7, false) }
abbrev jcl9 : Oper := { dst := some 158, op := Op.load 3 (Operand.tmp 157), type := 3, pos := "deep.go:53", after := #[{ on := 8, ground := Ground.data }, { on := 7, ground := Ground.guard }], guard := some (7, false) }
abbrev jcl10 : Oper := { dst := some 159, op := Op.move (Operand.tmp 11), type := 57, pos := "deep.go:53", after := #[{ on := 7, ground := Ground.guard }], guard := some (7, false) }
abbrev jcl11 : Oper := { dst := some 160, op := Op.move (Operand.tmp 20), type := 3, pos := "deep.go:53", after := #[{ on := 7, ground := Ground.guard }], guard := some (7, false) }
abbrev jcl12 : Oper := { dst := some 161, op := Op.indexAddr 57 (Operand.tmp 159) (Operand.tmp 160), type := 0, pos := "deep.go:53", after := #[{ on := 10, ground := Ground.data }, { on := 11, ground := Ground.data }, { on := 7, ground := Ground.guard }], guard := some (7, false) }
abbrev jcl13 : Oper := { dst := some 162, op := Op.load 3 (Operand.tmp 161), type := 3, pos := "deep.go:53", after := #[{ on := 12, ground := Ground.data }, { on := 7, ground := Ground.guard }], guard := some (7, false) }
abbrev jcl14 : Oper := { dst := some 163, op := Op.binOp BinOp.neq 3 (Operand.tmp 158) (Operand.tmp 162) 3, type := 4, pos := "deep.go:53", after := #[{ on := 9, ground := Ground.data }, { on := 13, ground := Ground.data }, { on := 7, ground := Ground.guard }], guard := some (7, false) }
abbrev jcl15 : Oper := { dst := some 164, op := Op.pick (Operand.tmp 156) (Operand.const (Value.bool true)) (Operand.tmp 163), type := 4, pos := "deep.go:53", after := #[{ on := 7, ground := Ground.data }, { on := 14, ground := Ground.data }], guard := none }

theorem mask3c (z : Int) : bits .and .i64 z 3 = z % 4 := by
  have := i64_mask z 2 (by omega)
  simpa using this
section
variable {w0 w : World} {C : Ass} {pb pd : Nat} {most : Int} {ts : List ByteArray} {d : Dk}
/-- A book's call that turns nothing. -/
theorem jlbook {f : FuncId} {args : Array Value} {u : Ending} (hC : C.Good) (hd : Does Tryz.prog (bookA pb most ts) f args u (bookA pb most ts)) (h : At w0 ((BD pb pd most ts d).star C) w) : Calls Tryz.prog f args w fun e w' => e = u ∧ At w0 ((BD pb pd most ts d).star C) w' :=
  At.jop (X' := BD pb pd most ts d) (R := fun e _ => e = u) hC (BD_good _ _ _ _ _) h fun _ _ h1 _ _ _ => Becomes.opN hd (Ass.imp.refl _) (Ass.imp.refl _) ((dpA_good _ _).star emp_good) (Becomes.refl h1)
end
/-- What the law has in memory. -/
abbrev LC (pb pd pj rb : Nat) (T : List ByteArray) (D : Dk) (J : Jn) (v : Value) (bs : List Int) (R : List ByteArray) : Ass := (BD pb pd 65536 T D).star ((JO pj pb pd 48 J).star ((rowA 3 v (vals bs)).star ((refA rb 65536 R).star emp)))
theorem LC_good (pb pd pj rb : Nat) (T : List ByteArray) (D : Dk) (J : Jn) (v : Value) (bs : List Int) (R : List ByteArray) : (LC pb pd pj rb T D J v bs R).Good := (BD_good _ _ _ _ _).star ((JO_good _ _ _ _ _).star ((rowA_good _ _ _).star ((refA_good _ _ _).star emp_good)))
theorem LC_rest (pb pd pj rb : Nat) (J : Jn) (v : Value) (bs : List Int) (R : List ByteArray) : ((JO pj pb pd 48 J).star ((rowA 3 v (vals bs)).star ((refA rb 65536 R).star emp))).Good := (JO_good _ _ _ _ _).star ((rowA_good _ _ _).star ((refA_good _ _ _).star emp_good))
set_option maxRecDepth 100000 in
set_option maxHeartbeats 8000000 in
theorem jchainlaw (ao : Option Addr) (cap : Nat) (zs : List Int) (w : World) (hg : Gd w) (hA : IArg w ao zs) :
    Calls Tryz.prog 8 #[.slice ao zs.length cap] w fun e w' => e = .returned (.bool true) ∧ Below w.heap.size w w' := by
  have hfew := hA.few
  have HA := Lib.hid hA
  have HG := Lib.hid hg
  obtain ⟨s1, s2, s3, s4⟩ := Chn.start
  have hok0 : (Dk.new 50).Ok := Dk.ok_new (by omega) (by omega)
  have HO := Lib.hid (fun (C : Ass) (W : World) (pb pd : Nat) (hC : C.Good) (h : At w ((BD pb pd 65536 [] (Dk.new 50)).star C) W) => (show Calls Tryz.prog 34 #[.pointer (some ⟨pb, 0, none⟩), .pointer (some ⟨pd, 0, none⟩)] W (fun e w' => ∃ p : Nat, e = .returned (.tuple #[.pointer (some ⟨p, 0, none⟩), .int .i64 0]) ∧ At w ((BD pb pd 65536 (joT 65536 [] (Dk.new 50)) (joD 65536 [] (Dk.new 50))).star ((JO p pb pd 48 (joJ 65536 [] (Dk.new 50))).star C)) w') from by have := jlopen hC hg h hok0 (by simp) (by simp [Dk.new]) s1; exact this))
  have HS := Lib.hid (And.intro s2 (And.intro s3 s4))
  clear hg s1 s2 s3 s4 hok0 hA
  go_enter Tryz.func8, Tryz.ntmps8
  go_wp2_with (first
    | (go_at_call 12; (with_reducible refine (awake11 _ HG.out).mono ?_); rintro e w1 ⟨rfl, hb0⟩)
    | (go_at_call 10; (with_reducible refine (twin_none11 65536 _ (by omega) (by omega)).mono ?_); rintro e w1 ⟨pb, qb, rfl, hb⟩)
    | (go_at_call 11; (with_reducible refine (pair_at11 _ 50 (by omega) _ (by omega) (by omega)).mono ?_); rintro e w2 ⟨pd, qd, rfl, hp⟩; have hS := (lawdrop ((lawstart hb hp).imp (Ass.imp.comm _ _)).drop).under hb0; clear hb hp hb0)
    | (go_at_call 36; (with_reducible refine (rnew_ok 65536 _ (by omega) (by omega)).mono ?_); rintro e w3 ⟨rb, rfl, hq⟩; replace hS := (At.add ((BD_good _ _ _ _ _).star emp_good) hS hq).imp (Ass.imp.swap _ _ _); clear hq)
    | (go_at_call 34; (with_reducible refine (HO.out _ _ _ _ ((refA_good _ _ _).star emp_good) hS).mono ?_); rintro e w3 ⟨p1, rfl, hS1⟩; replace hS := hS1; clear hS1)
    | (go_at_call 16; (with_reducible refine (lnum _ _).mono ?_); rintro e w9 ⟨rfl, rfl⟩))
  obtain ⟨g1, g2, g3⟩ := HS.out
  have hi : ∃ T D J, Chn T D J [] ∧ J.boot = 1 ∧ T.length ≤ 1 ∧ At w (LC pb pd p1 rb T D J (.slice Option.none 0 0) [] []) w3 := ⟨_, _, _, g3, g1, g2, (hS.row0 3).imp (Ass.imp.dn2 _ _ _ _)⟩
  clear hS g1 g2 g3 HS HO
  go_loopw [9, 11, 12] (fun x9 x11 x12 wr => ∃ (i pj : Nat) (T : List ByteArray) (D : Dk) (J : Jn) (bs : List Int) (a2 : Option Addr) (m c2 : Nat), i ≤ zs.length ∧ i ≤ 30 ∧ x12 = .int .i64 (i : Int) ∧ x9 = .pointer (some ⟨pj, 0, none⟩) ∧ x11 = .slice a2 m c2 ∧ Chn T D J bs ∧ J.boot ≤ 1 + (i : Int) ∧ T.length ≤ 1 + i ∧ bs.length = m ∧ m ≤ i ∧ At w (LC pb pd pj rb T D J (.slice a2 m c2) bs []) wr) (fun _ _ x12 _ => 31 - (intOf x12).toNat)
  case atStart =>
    obtain ⟨T, D, J, q1, q2, q3, q4⟩ := hi
    exact ⟨0, p1, T, D, J, [], _, 0, _, Nat.zero_le _, by omega, rfl, rfl, rfl, q1, by omega, by omega, rfl, Nat.le_refl _, q4⟩
  case round =>
    clear hi
    obtain ⟨i, pj, T, D, J, bs, a2, m, c2, hil, hi30, rfl, rfl, rfl, hCh, hBt, hTl, hbm, hmi, hS⟩ := hrel
    have hjok : JOk T D 48 J := hCh.safe.jok (by omega) (by rw [hCh.fifty]; rfl)
    obtain ⟨bt, hbt⟩ : ∃ bt : Int, J.boot = bt := ⟨_, rfl⟩
    by_cases hgo : i < zs.length ∧ i < 30
    · obtain ⟨hlt, hlt30⟩ := hgo
      obtain ⟨bb, off, zi, rfl, _, _, hcw⟩ := HA.out.at hlt
      have hc := hcw _ hS.bel
      have m3 := mask3c zi
      have hI30 : (i : Int) < 30 := by omega
      have hIz : (i : Int) < (zs.length : Int) := by omega
      clear hcw
      by_cases hz : zi % 4 = 3
      · obtain ⟨e1, e2, e3, e4⟩ := hCh.again (by omega) (by omega)
        have hOp := fun W (h : At w (LC pb pd pj rb T D J (.slice a2 m c2) bs []) W) => jlopen (w0 := w) (LC_rest _ _ _ _ _ _ _ _) HG.out h hjok.ok (by omega) (by have := hjok.wl; omega) e1
        rw [hCh.fifty] at hOp
        rw [hbt] at e2
        generalize joT 65536 T D = T2 at *
        generalize joD 65536 T D = D2 at *
        generalize joJ 65536 T D = J2 at *
        have HOp := Lib.hid (fun W (h : At w (LC pb pd pj rb T D J (.slice a2 m c2) bs []) W) => (show Calls Tryz.prog 34 #[.pointer (some ⟨pb, 0, none⟩), .pointer (some ⟨pd, 0, none⟩)] W (fun e w' => ∃ p : Nat, e = .returned (.tuple #[.pointer (some ⟨p, 0, none⟩), .int .i64 0]) ∧ At w (LC pb pd p rb T2 D2 J2 (.slice a2 m c2) bs []) w') from
          (hOp W h).mono fun e w' ⟨p, q1, q2⟩ => ⟨p, q1, q2.drop3⟩))
        have HN := Lib.hid (show Chn T2 D2 J2 bs ∧ J2.boot ≤ 1 + ((i + 1 : Nat) : Int) ∧ T2.length ≤ 1 + (i + 1) ∧ bs.length = m ∧ m ≤ i + 1 from ⟨e4, by omega, by omega, hbm, by omega⟩)
        clear hOp e1 e2 e3 e4 hCh hBt hTl hbm hmi hjok hbt
        go_wp2_with (first
          | (go_at_call 34; (with_reducible refine (HOp.out _ hS).mono ?_); rintro e w4 ⟨p2, rfl, hS4⟩)
          | (go_at_call 16; (with_reducible refine (lnum _ _).mono ?_); rintro e w9 ⟨rfl, rfl⟩))
        go_round
        case rel => exact ⟨i + 1, p2, T2, D2, J2, bs, a2, m, c2, by omega, by omega, by go_num, rfl, rfl, HN.out.1, HN.out.2.1, HN.out.2.2.1, HN.out.2.2.2.1, HN.out.2.2.2.2, hS4⟩
        case measure => simp [intOf]; omega
      · obtain ⟨e1, e2, e3, e4⟩ := hCh.append (by omega) (by omega) (by omega) (i := i) (by omega)
        have hAp := fun W W1 (hw : W1 = W.alloc (.cells #[.int .i64 9, .int .i64 0, .int .i64 (i : Int), .int .i64 0, .int .i64 0, .int .i64 0, .int .i64 0, .int .i64 0] 61)) (h : At w (LC pb pd pj rb T D J (.slice a2 m c2) bs []) W) => jlapp (w0 := w) ((rowA_good _ _ _).star ((refA_good _ _ _).star emp_good)) h hjok [spE (i : Int)] (by simp) (w1 := W1) hw
        rw [e1] at hAp
        rw [hbt] at e2 e4
        generalize jpT 65536 T J D [spE (i : Int)] = T2 at *
        generalize apD 65536 T J D [spE (i : Int)] = D2 at *
        generalize apJ 65536 T J D [spE (i : Int)] = J2 at *
        have HAp := Lib.hid (fun W W1 (hw : W1 = W.alloc (.cells #[.int .i64 9, .int .i64 0, .int .i64 (i : Int), .int .i64 0, .int .i64 0, .int .i64 0, .int .i64 0, .int .i64 0] 61)) (h : At w (LC pb pd pj rb T D J (.slice a2 m c2) bs []) W) => (show Calls Tryz.prog 15 #[.pointer (some ⟨pj, 0, none⟩), .slice (some ⟨W.heap.size, 0, none⟩) 1 1] W1 (fun e w' => e = .returned (.int .i64 0) ∧ At w (LC pb pd pj rb T2 D2 J2 (.slice a2 m c2) bs []) w') from hAp W W1 hw h))
        have HBo := Lib.hid (fun W (h : At w (LC pb pd pj rb T2 D2 J2 (.slice a2 m c2) bs []) W) => (show Calls Tryz.prog 29 #[.pointer (some ⟨pj, 0, none⟩)] W (fun e w' => e = .returned (.int .i64 bt) ∧ W = w') from (jlboot h.drop).mono fun e w' ⟨q1, q2⟩ => ⟨by rw [q1, e2], q2⟩))
        have HN := Lib.hid (show Chn T2 D2 J2 (bs ++ [bt]) ∧ J2.boot ≤ 1 + ((i + 1 : Nat) : Int) ∧ T2.length ≤ 1 + (i + 1) ∧ (bs ++ [bt]).length = m + 1 ∧ m + 1 ≤ i + 1 from ⟨e4, by omega, by omega, by rw [List.length_append, hbm]; rfl, by omega⟩)
        have hbl : bs.length ≤ 1000 := by omega
        clear hAp e1 e2 e3 e4 hCh hBt hTl hmi hjok hbt
        go_wp2_with (first
          | (go_at_call 15; (with_reducible refine (HAp.out _ _ ?hw hS).mono ?_); (case hw => rfl); rintro e w4 ⟨rfl, hS4⟩; have hR := hS4.imp (Ass.imp.up2 _ _ _ _))
          | (go_at_call 29; (with_reducible refine (HBo.out _ hS4).mono ?_); rintro e w5 ⟨rfl, rfl⟩)
          | (at_builtin; refine app_int ((BD_good _ _ _ _ _).star ((JO_good _ _ _ _ _).star ((refA_good _ _ _).star emp_good))) rfl _ _ rfl _ bs bt rfl rfl hR hbl ?_; intro v2 w5 hS5; obtain ⟨a5, c5, e5⟩ := rowI_shape hS5.row; rw [show (vals (bs ++ [bt])).length = m + 1 by simp [vals, hbm]] at e5; subst e5)
          | (go_at_call 16; (with_reducible refine (lnum _ _).mono ?_); rintro e w9 ⟨rfl, rfl⟩))
        go_round
        case rel => exact ⟨i + 1, pj, T2, D2, J2, bs ++ [bt], a5, m + 1, c5, by omega, by omega, by go_num, rfl, rfl, HN.out.1, HN.out.2.1, HN.out.2.2.1, HN.out.2.2.2.1, HN.out.2.2.2.2, hS5.imp (Ass.imp.dn2 _ _ _ _)⟩
        case measure => simp [intOf]; omega
    · have HC := Lib.hid (And.intro hCh (And.intro hbm (show m ≤ 30 by omega)))
      have hTs : T.length ≤ 65536 := by omega
      have hm30 : m ≤ 30 := by omega
      have hup := hCh.safe.calm.up
      have hdry := hCh.safe.calm.dry
      have h50 := hCh.fifty
      have htok := hCh.tok
      have HLn := Lib.hid (fun R W (h : At w (LC pb pd pj rb T D J (.slice a2 m c2) bs R) W) => (show Calls Tryz.prog 37 #[.pointer (some ⟨pb, 0, none⟩)] W (fun e w' => e = .returned (.int .i64 (T.length : Int)) ∧ At w (LC pb pd pj rb T D J (.slice a2 m c2) bs R) w') from jlbook (LC_rest _ _ _ _ _ _ _ _) (dlen pb 65536 T) h))
      have HTm := Lib.hid (fun (k : Nat) (hk : k < T.length) R W (h : At w (LC pb pd pj rb T D J (.slice a2 m c2) bs R) W) => (show Calls Tryz.prog 38 #[.pointer (some ⟨pb, 0, none⟩), .int .i64 (k : Int)] W (fun e w' => e = .returned (.tuple #[.string (T.getD k ⟨#[]⟩), .int .i64 0]) ∧ At w (LC pb pd pj rb T D J (.slice a2 m c2) bs R) w') from by
        have := jlbook (LC_rest _ _ _ _ _ _ _ _) (dterm pb 65536 T (k : Int)) h
        rw [(TOk.term hk).1, (TOk.term hk).2] at this
        exact this))
      have HNm := Lib.hid (fun (k : Nat) (hk : k < T.length) W (h : At w (LC pb pd pj rb T D J (.slice a2 m c2) bs (T.take k)) W) => (show Calls Tryz.prog 39 #[.pointer (some ⟨rb, 0, none⟩), .string (T.getD k ⟨#[]⟩)] W (fun e w' => ∃ x y, e = .returned (.tuple #[.int .i64 x, .int .i64 y]) ∧ At w (LC pb pd pj rb T D J (.slice a2 m c2) bs (T.take (k + 1))) w') from by
        have := At.opN (drname rb 65536 (T.take k) (T.getD k ⟨#[]⟩) (by have := htok.small hk; unfold maxLen; omega)) (Ass.imp.up3 _ _ _ _ _) (Ass.imp.dn3 _ _ _ _ _) ((BD_good _ _ _ _ _).star ((JO_good _ _ _ _ _).star ((rowA_good _ _ _).star emp_good))) h
        rw [htok.again hTs hk] at this
        exact this.mono fun e w' ⟨q1, q2⟩ => ⟨_, _, q1, q2⟩))
      have HRd := Lib.hid (fun (k : Nat) (hk : 2 ≤ k ∧ k < 50) W (h : At w (LC pb pd pj rb T D J (.slice a2 m c2) bs T) W) => (show Calls Tryz.prog 40 #[.pointer (some ⟨pd, 0, none⟩), .int .i64 (k : Int)] W (fun e w' => e = .returned (.tuple #[.string (D.kept.getD k ⟨#[]⟩), .int .i64 0]) ∧ At w (LC pb pd pj rb T D J (.slice a2 m c2) bs T) w') from by
        have := jldisk (LC_rest _ _ _ _ _ _ _ _) (kpread pd D (k : Int)) h
        obtain ⟨r1, r2⟩ := Dk.rd_dry hdry hup (i := k) (by omega)
        rw [r1, r2] at this
        exact this))
      have HGr := Lib.hid (fun s (hs : s.size ≤ 64) (sq pv : Int) W (h : At w (LC pb pd pj rb T D J (.slice a2 m c2) bs T) W) => (show Calls Tryz.prog 41 #[.pointer (some ⟨rb, 0, none⟩), .string s, .int .i64 sq, .int .i64 pv] W (fun e w' => e = .returned (.tuple #[(rgR T s sq pv).val, .int .i64 (rgN T s sq pv), .int .i64 (rgE T s sq pv)]) ∧ At w (LC pb pd pj rb T D J (.slice a2 m c2) bs T) w') from
        At.opN (drget rb 65536 T s sq pv (by omega)) (Ass.imp.up3 _ _ _ _ _) (Ass.imp.dn3 _ _ _ _ _) ((BD_good _ _ _ _ _).star ((JO_good _ _ _ _ _).star ((rowA_good _ _ _).star emp_good))) h))
      have hS0 : At w (LC pb pd pj rb T D J (.slice a2 m c2) bs (T.take 0)) wr := by rw [List.take_zero]; exact hS
      have hcase : (i < zs.length ∧ ¬ (i : Int) < 30) ∨ ¬ i < zs.length := by omega
      clear hS hCh hBt hTl hbm hmi hjok hbt hup hdry h50 htok hgo hi30
      rcases hcase with ⟨hlt, hge⟩ | hlt
      · have hIz : (i : Int) < (zs.length : Int) := by omega
        clear hlt
        go_wp2
        go_loopw [16] (fun x16 wr2 => ∃ k : Nat, k ≤ T.length ∧ x16 = .int .i64 (k : Int) ∧ At w (LC pb pd pj rb T D J (.slice a2 m c2) bs (T.take k)) wr2) (fun x16 _ => T.length - (intOf x16).toNat)
        case atStart => exact ⟨0, Nat.zero_le _, rfl, hS0⟩
        case round =>
          clear hS0
          obtain ⟨k, hkT, rfl, hS⟩ := hrel
          by_cases hk : k < T.length
          · have hkI : (k : Int) < (T.length : Int) := by omega
            have HT2 := Lib.hid (HTm.out k hk (T.take k))
            have HN2 := Lib.hid (HNm.out k hk)
            generalize T.getD k ⟨#[]⟩ = SS at *
            go_wp2_with (first
              | (go_at_call 37; (with_reducible refine (HLn.out _ _ hS).mono ?_); rintro e w4 ⟨rfl, hS4⟩)
              | (go_at_call 38; (with_reducible refine (HT2.out _ hS4).mono ?_); rintro e w5 ⟨rfl, hS5⟩)
              | (go_at_call 39; (with_reducible refine (HN2.out _ hS5).mono ?_); rintro e w6 ⟨x6, y6, rfl, hS6⟩)
              | (go_at_call 16; (with_reducible refine (lnum _ _).mono ?_); rintro e w9 ⟨rfl, rfl⟩))
            go_round
            case rel => exact ⟨k + 1, by omega, by go_num, hS6⟩
            case measure => simp [intOf]; omega
          · obtain rfl : k = T.length := by omega
            rw [List.take_length] at hS
            have hkI : ¬ (T.length : Int) < (T.length : Int) := by omega
            have hH := HC.out.1
            have hc0 : ChB T ((D.kept.drop 2).drop 0) 0 0 (bs.drop 0) J.last := hH.chb
            clear hH hk hkT
            go_wp2_with (go_at_call 37; (with_reducible refine (HLn.out _ _ hS).mono ?_); rintro e w4 ⟨rfl, hS4⟩)
            go_loopw [19, 20] (fun x19 x20 wr3 => ∃ (q : Nat) (l : Int), q ≤ m ∧ x20 = .int .i64 (q : Int) ∧ x19 = .int .i64 l ∧ ChB T ((D.kept.drop 2).drop q) q l (bs.drop q) J.last ∧ At w (LC pb pd pj rb T D J (.slice a2 m c2) bs T) wr3) (fun _ x20 _ => m - (intOf x20).toNat)
            case atStart => exact ⟨0, 0, Nat.zero_le _, rfl, rfl, hc0, hS4⟩
            case round =>
              clear hc0 hS4 hS
              obtain ⟨q, l, hqm, rfl, rfl, hcb, hS⟩ := hrel
              by_cases hq : q < m
              · have hqI : (q : Int) < (m : Int) := by omega
                obtain ⟨hH, hbm, _⟩ := HC.out
                obtain ⟨r, own, g1, g2, g3, g4, g5⟩ := Chn.read (i := q) (by omega) hcb
                have hsz : (D.kept.getD (2 + q) ⟨#[]⟩).size ≤ 64 := by
                  have h50 := hH.fifty
                  have : D.kept.getD (2 + q) ⟨#[]⟩ ∈ D.kept := by rw [show D.kept.getD (2 + q) ⟨#[]⟩ = D.kept[2 + q]'(by omega) by simp [List.getD, show 2 + q < D.kept.length by omega]]; exact List.getElem_mem _
                  rw [hH.safe.calm.sz _ this]
                  decide
                obtain ⟨u2, hu2⟩ : ∃ u2 : Nat, u2 = 2 + q := ⟨_, rfl⟩
                have hu2w : IntKind.i64.wrap (2 + (q : Int)) = (u2 : Int) := by rw [IntKind.wrap_i64]; omega
                have hq1w : IntKind.i64.wrap ((q : Int) + 1) = (q : Int) + 1 := by rw [IntKind.wrap_i64]; omega
                have HR2 := Lib.hid (HRd.out u2 ⟨by omega, by omega⟩)
                have HG2 := Lib.hid (HGr.out (D.kept.getD u2 ⟨#[]⟩) (by rw [hu2]; exact hsz) ((q : Int) + 1) l)
                obtain ⟨bt, hbt⟩ : ∃ bt, bs.getD q 0 = bt := ⟨_, rfl⟩
                rw [hu2, g1, g2, g3] at HG2
                rw [← hu2] at HG2
                rw [hbt] at g4
                have HN := Lib.hid g5
                have hrow : ∃ g, a2 = some ⟨g, 0, Option.none⟩ ∧ ∀ Z n c X, At w ((ownA n c X).star (LC pb pd pj rb T D J (.slice a2 m c2) bs T)) Z → Z.cell? ⟨g, q, Option.none⟩ = some (.int .i64 bt) := by
                  have hx := hS.imp (Ass.imp.up2 _ _ _ _)
                  obtain ⟨g, c5, e5, _⟩ := At.num hx (j := q) (by omega)
                  have e6 : a2 = some ⟨g, 0, Option.none⟩ := by injection e5
                  refine ⟨g, e6, fun Z n c X hZ => ?_⟩
                  obtain ⟨g', c6, e7, hcell⟩ := At.num (hZ.drop.imp (Ass.imp.up2 _ _ _ _)) (j := q) (by omega)
                  have e8 : a2 = some ⟨g', 0, Option.none⟩ := by injection e7
                  rw [e6] at e8
                  obtain rfl : g = g' := by simpa using e8
                  rw [hcell, hbt]
                obtain ⟨gg, rfl, hgc⟩ := hrow
                obtain ⟨r1, r2, r3, ⟨k1, k2, k3, k4, k5, k6, k7, k8⟩⟩ := r
                simp only at g4
                subst g4
                have HG3 := Lib.hid (show ∀ W, At w (LC pb pd pj rb T D J (.slice (some ⟨gg, 0, none⟩) m c2) bs T) W → Calls Tryz.prog 41 #[.pointer (some ⟨rb, 0, none⟩), .string (D.kept.getD u2 ⟨#[]⟩), .int .i64 ((q : Int) + 1), .int .i64 l] W (fun e w' => e = .returned (.tuple #[.agg #[.int .i64 r1, .int .i64 r2, .int .i64 r3, .int .i64 k1, .int .i64 k2, .int .i64 k3, .int .i64 k4, .int .i64 k5, .int .i64 k6, .int .i64 k7, .int .i64 k8], .int .i64 own, .int .i64 0]) ∧ At w (LC pb pd pj rb T D J (.slice (some ⟨gg, 0, none⟩) m c2) bs T) w') from HG2.out)
                have HCL := Lib.hid (fun Z n (hZ : At w ((ownA n #[.int .i64 r1, .int .i64 r2, .int .i64 r3, .int .i64 k1, .int .i64 k2, .int .i64 k3, .int .i64 k4, .int .i64 k5, .int .i64 k6, .int .i64 k7, .int .i64 k8] 74).star (LC pb pd pj rb T D J (.slice (some ⟨gg, 0, none⟩) m c2) bs T)) Z) => (show Z.cell? ⟨n, 1, none⟩ = some (.int .i64 r2) ∧ Z.cell? ⟨gg, q, none⟩ = some (.int .i64 r2) from ⟨hZ.own.1 1, hgc _ _ _ _ hZ⟩))
                generalize D.kept.getD u2 ⟨#[]⟩ = sv at *
                clear hH hbm g1 g2 g3 g5 hsz hu2 hbt hgc HG2 hcb hqm
                go_wp2_with (first
                  | (go_at_call 40; (with_reducible refine (HR2.out _ hS).mono ?_); rintro e w4 ⟨rfl, hS4⟩)
                  | (go_at_call 41; (with_reducible refine (HG3.out _ hS4).mono ?_); rintro e w5 ⟨rfl, hS5⟩; replace hS5 := hS5.hold (LC_good _ _ _ _ _ _ _ _ _ _) #[.int .i64 r1, .int .i64 r2, .int .i64 r3, .int .i64 k1, .int .i64 k2, .int .i64 k3, .int .i64 k4, .int .i64 k5, .int .i64 k6, .int .i64 k7, .int .i64 k8] 74; obtain ⟨f1, f2, f3⟩ := hS5.own))
                clear f1 f2 f3
                refine region_held (S := fun Z8 => At w ((ownA w5.heap.size #[.int .i64 r1, .int .i64 r2, .int .i64 r3, .int .i64 k1, .int .i64 k2, .int .i64 k3, .int .i64 k4, .int .i64 k5, .int .i64 k6, .int .i64 k7, .int .i64 k8] 74).star (LC pb pd pj rb T D J (.slice (some ⟨gg, 0, none⟩) m c2) bs T)) Z8) 16 [false, false, false, false, false, false, false, false, false, false, false, false, false, false, false, false] rfl rfl (by kernel_rfl) fun V0 hW => ?_
                have hX := hS5.lay ((ownA_good _ _ _).star (LC_good _ _ _ _ _ _ _ _ _ _)) (bdrew _)
                rw [← hW] at hX
                clear hW hS5
                refine held_take 0 jcl0 (some 149) ?_ rfl rfl (by kernel_rfl) (by kernel_rfl) (by kernel_rfl) (fun _ _ _ h => h) (Or.inl ⟨by rfl, ?_⟩) hX ?_
                rotate_left
                · intro w0 hy0; obtain ⟨a0, a1⟩ := HCL.out _ _ hy0; clear hy0; (go_simp <;> with_reducible rfl)
                simp only [Act.put, List.setIfInBounds_toArray, List.set_cons_zero, List.set_cons_succ]
                refine held_call 1 jcl1 (some 150) (.int .i64 0) (fun Z9 => V0 = Z9) 16 #[.int .i64 0] (by kernel_rfl) rfl rfl (by rfl) (jx_Num (.tmp 149) rfl rfl) ((lnum _ _).mono fun e w' ⟨e1, e2⟩ => ⟨e1, e2⟩) (fun _ e => e ▸ hX) ?_
                rintro _ rfl
                simp only [Act.put, List.setIfInBounds_toArray, List.set_cons_zero, List.set_cons_succ]
                refine run_go [(2, jcl2, (some 151)), (3, jcl3, (some 152)), (4, jcl4, (some 153)), (5, jcl5, (some 154)), (6, jcl6, (some 155)), (7, jcl7, (some 156)), (8, jcl8, (some 157)), (9, jcl9, (some 158)), (10, jcl10, (some 159)), (11, jcl11, (some 160)), (12, jcl12, (some 161)), (13, jcl13, (some 162)), (14, jcl14, (some 163)), (15, jcl15, (some 164))] (by kernel_rfl) ?_
                iterate 14 (refine run_take ?_ rfl rfl (fun _ _ _ h => h) (Or.inl ⟨by rfl, ?_⟩) hX ?_; rotate_left; (· (intro w0 hy0; obtain ⟨a0, a1⟩ := HCL.out _ _ hy0; clear hy0; (go_simp <;> with_reducible rfl))); simp only [Act.put, List.setIfInBounds_toArray, List.set_cons_zero, List.set_cons_succ])
                refine run_end ?_
                refine wpAnyH_done (by kernel_rfl) ?_ _
                go_wp2
                go_round
                case rel => exact ⟨q + 1, own, by omega, by go_num, rfl, HN.out, hX.drop⟩
                case measure => simp [intOf]; omega
              · obtain rfl : q = m := by omega
                have hqI : ¬ (q : Int) < (q : Int) := by omega
                obtain ⟨hH, hbm, hm3⟩ := HC.out
                obtain ⟨u2, hu2⟩ : ∃ u2 : Nat, u2 = 2 + q := ⟨_, rfl⟩
                have hu2w : IntKind.i64.wrap (2 + (q : Int)) = (u2 : Int) := by rw [IntKind.wrap_i64]; omega
                have hz := hH.zero u2 (by omega) (by omega)
                have HR2 := Lib.hid (HRd.out u2 ⟨by omega, by omega⟩)
                rw [hz] at HR2
                clear hH hbm hm3 hu2 hz hcb hqm hq
                go_wp2_with (first
                  | (go_at_call 40; (with_reducible refine (HR2.out _ hS).mono ?_); rintro e w4 ⟨rfl, hS4⟩; have hz1 := z_made w4; have hz2 := z_conv w4)
                  | (go_at_call 16; (with_reducible refine (lnum _ _).mono ?_); rintro e w9 ⟨rfl, rfl⟩))
                go_ret
                exact ⟨rfl, bon hS4.bel (balloc w4 _)⟩
      · have hIz : ¬ (i : Int) < (zs.length : Int) := by omega
        clear hlt
        go_wp2
        go_loopw [16] (fun x16 wr2 => ∃ k : Nat, k ≤ T.length ∧ x16 = .int .i64 (k : Int) ∧ At w (LC pb pd pj rb T D J (.slice a2 m c2) bs (T.take k)) wr2) (fun x16 _ => T.length - (intOf x16).toNat)
        case atStart => exact ⟨0, Nat.zero_le _, rfl, hS0⟩
        case round =>
          clear hS0
          obtain ⟨k, hkT, rfl, hS⟩ := hrel
          by_cases hk : k < T.length
          · have hkI : (k : Int) < (T.length : Int) := by omega
            have HT2 := Lib.hid (HTm.out k hk (T.take k))
            have HN2 := Lib.hid (HNm.out k hk)
            generalize T.getD k ⟨#[]⟩ = SS at *
            go_wp2_with (first
              | (go_at_call 37; (with_reducible refine (HLn.out _ _ hS).mono ?_); rintro e w4 ⟨rfl, hS4⟩)
              | (go_at_call 38; (with_reducible refine (HT2.out _ hS4).mono ?_); rintro e w5 ⟨rfl, hS5⟩)
              | (go_at_call 39; (with_reducible refine (HN2.out _ hS5).mono ?_); rintro e w6 ⟨x6, y6, rfl, hS6⟩)
              | (go_at_call 16; (with_reducible refine (lnum _ _).mono ?_); rintro e w9 ⟨rfl, rfl⟩))
            go_round
            case rel => exact ⟨k + 1, by omega, by go_num, hS6⟩
            case measure => simp [intOf]; omega
          · obtain rfl : k = T.length := by omega
            rw [List.take_length] at hS
            have hkI : ¬ (T.length : Int) < (T.length : Int) := by omega
            have hH := HC.out.1
            have hc0 : ChB T ((D.kept.drop 2).drop 0) 0 0 (bs.drop 0) J.last := hH.chb
            clear hH hk hkT
            go_wp2_with (go_at_call 37; (with_reducible refine (HLn.out _ _ hS).mono ?_); rintro e w4 ⟨rfl, hS4⟩)
            go_loopw [19, 20] (fun x19 x20 wr3 => ∃ (q : Nat) (l : Int), q ≤ m ∧ x20 = .int .i64 (q : Int) ∧ x19 = .int .i64 l ∧ ChB T ((D.kept.drop 2).drop q) q l (bs.drop q) J.last ∧ At w (LC pb pd pj rb T D J (.slice a2 m c2) bs T) wr3) (fun _ x20 _ => m - (intOf x20).toNat)
            case atStart => exact ⟨0, 0, Nat.zero_le _, rfl, rfl, hc0, hS4⟩
            case round =>
              clear hc0 hS4 hS
              obtain ⟨q, l, hqm, rfl, rfl, hcb, hS⟩ := hrel
              by_cases hq : q < m
              · have hqI : (q : Int) < (m : Int) := by omega
                obtain ⟨hH, hbm, _⟩ := HC.out
                obtain ⟨r, own, g1, g2, g3, g4, g5⟩ := Chn.read (i := q) (by omega) hcb
                have hsz : (D.kept.getD (2 + q) ⟨#[]⟩).size ≤ 64 := by
                  have h50 := hH.fifty
                  have : D.kept.getD (2 + q) ⟨#[]⟩ ∈ D.kept := by rw [show D.kept.getD (2 + q) ⟨#[]⟩ = D.kept[2 + q]'(by omega) by simp [List.getD, show 2 + q < D.kept.length by omega]]; exact List.getElem_mem _
                  rw [hH.safe.calm.sz _ this]
                  decide
                obtain ⟨u2, hu2⟩ : ∃ u2 : Nat, u2 = 2 + q := ⟨_, rfl⟩
                have hu2w : IntKind.i64.wrap (2 + (q : Int)) = (u2 : Int) := by rw [IntKind.wrap_i64]; omega
                have hq1w : IntKind.i64.wrap ((q : Int) + 1) = (q : Int) + 1 := by rw [IntKind.wrap_i64]; omega
                have HR2 := Lib.hid (HRd.out u2 ⟨by omega, by omega⟩)
                have HG2 := Lib.hid (HGr.out (D.kept.getD u2 ⟨#[]⟩) (by rw [hu2]; exact hsz) ((q : Int) + 1) l)
                obtain ⟨bt, hbt⟩ : ∃ bt, bs.getD q 0 = bt := ⟨_, rfl⟩
                rw [hu2, g1, g2, g3] at HG2
                rw [← hu2] at HG2
                rw [hbt] at g4
                have HN := Lib.hid g5
                have hrow : ∃ g, a2 = some ⟨g, 0, Option.none⟩ ∧ ∀ Z n c X, At w ((ownA n c X).star (LC pb pd pj rb T D J (.slice a2 m c2) bs T)) Z → Z.cell? ⟨g, q, Option.none⟩ = some (.int .i64 bt) := by
                  have hx := hS.imp (Ass.imp.up2 _ _ _ _)
                  obtain ⟨g, c5, e5, _⟩ := At.num hx (j := q) (by omega)
                  have e6 : a2 = some ⟨g, 0, Option.none⟩ := by injection e5
                  refine ⟨g, e6, fun Z n c X hZ => ?_⟩
                  obtain ⟨g', c6, e7, hcell⟩ := At.num (hZ.drop.imp (Ass.imp.up2 _ _ _ _)) (j := q) (by omega)
                  have e8 : a2 = some ⟨g', 0, Option.none⟩ := by injection e7
                  rw [e6] at e8
                  obtain rfl : g = g' := by simpa using e8
                  rw [hcell, hbt]
                obtain ⟨gg, rfl, hgc⟩ := hrow
                obtain ⟨r1, r2, r3, ⟨k1, k2, k3, k4, k5, k6, k7, k8⟩⟩ := r
                simp only at g4
                subst g4
                have HG3 := Lib.hid (show ∀ W, At w (LC pb pd pj rb T D J (.slice (some ⟨gg, 0, none⟩) m c2) bs T) W → Calls Tryz.prog 41 #[.pointer (some ⟨rb, 0, none⟩), .string (D.kept.getD u2 ⟨#[]⟩), .int .i64 ((q : Int) + 1), .int .i64 l] W (fun e w' => e = .returned (.tuple #[.agg #[.int .i64 r1, .int .i64 r2, .int .i64 r3, .int .i64 k1, .int .i64 k2, .int .i64 k3, .int .i64 k4, .int .i64 k5, .int .i64 k6, .int .i64 k7, .int .i64 k8], .int .i64 own, .int .i64 0]) ∧ At w (LC pb pd pj rb T D J (.slice (some ⟨gg, 0, none⟩) m c2) bs T) w') from HG2.out)
                have HCL := Lib.hid (fun Z n (hZ : At w ((ownA n #[.int .i64 r1, .int .i64 r2, .int .i64 r3, .int .i64 k1, .int .i64 k2, .int .i64 k3, .int .i64 k4, .int .i64 k5, .int .i64 k6, .int .i64 k7, .int .i64 k8] 74).star (LC pb pd pj rb T D J (.slice (some ⟨gg, 0, none⟩) m c2) bs T)) Z) => (show Z.cell? ⟨n, 1, none⟩ = some (.int .i64 r2) ∧ Z.cell? ⟨gg, q, none⟩ = some (.int .i64 r2) from ⟨hZ.own.1 1, hgc _ _ _ _ hZ⟩))
                generalize D.kept.getD u2 ⟨#[]⟩ = sv at *
                clear hH hbm g1 g2 g3 g5 hsz hu2 hbt hgc HG2 hcb hqm
                go_wp2_with (first
                  | (go_at_call 40; (with_reducible refine (HR2.out _ hS).mono ?_); rintro e w4 ⟨rfl, hS4⟩)
                  | (go_at_call 41; (with_reducible refine (HG3.out _ hS4).mono ?_); rintro e w5 ⟨rfl, hS5⟩; replace hS5 := hS5.hold (LC_good _ _ _ _ _ _ _ _ _ _) #[.int .i64 r1, .int .i64 r2, .int .i64 r3, .int .i64 k1, .int .i64 k2, .int .i64 k3, .int .i64 k4, .int .i64 k5, .int .i64 k6, .int .i64 k7, .int .i64 k8] 74; obtain ⟨f1, f2, f3⟩ := hS5.own))
                clear f1 f2 f3
                refine region_held (S := fun Z8 => At w ((ownA w5.heap.size #[.int .i64 r1, .int .i64 r2, .int .i64 r3, .int .i64 k1, .int .i64 k2, .int .i64 k3, .int .i64 k4, .int .i64 k5, .int .i64 k6, .int .i64 k7, .int .i64 k8] 74).star (LC pb pd pj rb T D J (.slice (some ⟨gg, 0, none⟩) m c2) bs T)) Z8) 16 [false, false, false, false, false, false, false, false, false, false, false, false, false, false, false, false] rfl rfl (by kernel_rfl) fun V0 hW => ?_
                have hX := hS5.lay ((ownA_good _ _ _).star (LC_good _ _ _ _ _ _ _ _ _ _)) (bdrew _)
                rw [← hW] at hX
                clear hW hS5
                refine held_take 0 jcl0 (some 149) ?_ rfl rfl (by kernel_rfl) (by kernel_rfl) (by kernel_rfl) (fun _ _ _ h => h) (Or.inl ⟨by rfl, ?_⟩) hX ?_
                rotate_left
                · intro w0 hy0; obtain ⟨a0, a1⟩ := HCL.out _ _ hy0; clear hy0; (go_simp <;> with_reducible rfl)
                simp only [Act.put, List.setIfInBounds_toArray, List.set_cons_zero, List.set_cons_succ]
                refine held_call 1 jcl1 (some 150) (.int .i64 0) (fun Z9 => V0 = Z9) 16 #[.int .i64 0] (by kernel_rfl) rfl rfl (by rfl) (jx_Num (.tmp 149) rfl rfl) ((lnum _ _).mono fun e w' ⟨e1, e2⟩ => ⟨e1, e2⟩) (fun _ e => e ▸ hX) ?_
                rintro _ rfl
                simp only [Act.put, List.setIfInBounds_toArray, List.set_cons_zero, List.set_cons_succ]
                refine run_go [(2, jcl2, (some 151)), (3, jcl3, (some 152)), (4, jcl4, (some 153)), (5, jcl5, (some 154)), (6, jcl6, (some 155)), (7, jcl7, (some 156)), (8, jcl8, (some 157)), (9, jcl9, (some 158)), (10, jcl10, (some 159)), (11, jcl11, (some 160)), (12, jcl12, (some 161)), (13, jcl13, (some 162)), (14, jcl14, (some 163)), (15, jcl15, (some 164))] (by kernel_rfl) ?_
                iterate 14 (refine run_take ?_ rfl rfl (fun _ _ _ h => h) (Or.inl ⟨by rfl, ?_⟩) hX ?_; rotate_left; (· (intro w0 hy0; obtain ⟨a0, a1⟩ := HCL.out _ _ hy0; clear hy0; (go_simp <;> with_reducible rfl))); simp only [Act.put, List.setIfInBounds_toArray, List.set_cons_zero, List.set_cons_succ])
                refine run_end ?_
                refine wpAnyH_done (by kernel_rfl) ?_ _
                go_wp2
                go_round
                case rel => exact ⟨q + 1, own, by omega, by go_num, rfl, HN.out, hX.drop⟩
                case measure => simp [intOf]; omega
              · obtain rfl : q = m := by omega
                have hqI : ¬ (q : Int) < (q : Int) := by omega
                obtain ⟨hH, hbm, hm3⟩ := HC.out
                obtain ⟨u2, hu2⟩ : ∃ u2 : Nat, u2 = 2 + q := ⟨_, rfl⟩
                have hu2w : IntKind.i64.wrap (2 + (q : Int)) = (u2 : Int) := by rw [IntKind.wrap_i64]; omega
                have hz := hH.zero u2 (by omega) (by omega)
                have HR2 := Lib.hid (HRd.out u2 ⟨by omega, by omega⟩)
                rw [hz] at HR2
                clear hH hbm hm3 hu2 hz hcb hqm hq
                go_wp2_with (first
                  | (go_at_call 40; (with_reducible refine (HR2.out _ hS).mono ?_); rintro e w4 ⟨rfl, hS4⟩; have hz1 := z_made w4; have hz2 := z_conv w4)
                  | (go_at_call 16; (with_reducible refine (lnum _ _).mono ?_); rintro e w9 ⟨rfl, rfl⟩))
                go_ret
                exact ⟨rfl, bon hS4.bel (balloc w4 _)⟩
end Go.Proofs.YtbfpfmidjdonjaaGreatDoor

