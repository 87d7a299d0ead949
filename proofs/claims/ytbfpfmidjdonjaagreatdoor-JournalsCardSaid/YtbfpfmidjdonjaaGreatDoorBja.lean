/- Put together: Jw, Jp1, Jex, Jp2. Conditions: each theorem's own. -/
import Derived.Test.YtbfpfmidjdonjaaGreatDoorBme
import Derived.Test.YtbfpfmidjdonjaaGreatDoorDoesG
import Derived.Test.YtbfpfmidjdonjaaGreatDoorBsc
import Derived.Test.YtbfpfmidjdonjaaGreatDoorBkq
import Derived.Test.YtbfpfmidjdonjaaGreatDoorBpj
import Derived.Test.YtbfpfmidjdonjaaGreatDoorFis
import Derived.Test.YtbfpfmidjdonjaaGreatDoorBrc
import Derived.Deep.QuietTactic
import Derived.BigQuiet
import Derived.RegionTactic
import Derived.Test.YtbfpfmidjdonjaaGreatDoorBrg
namespace Go.Proofs.YtbfpfmidjdonjaaGreatDoor
open Go Go.RowKit
abbrev TE : TypeId := 61
abbrev TJ : TypeId := 100
theorem infoEv : (Tryz.prog.info? TE).map (fun i => (i.zero, i.size, i.bytes)) = some (some (.agg #[.int .i64 0, .int .i64 0, .int .i64 0, .int .i64 0, .int .i64 0, .int .i64 0, .int .i64 0, .int .i64 0]), 8, 64) := by kernel_rfl
def Ev.cs (e : Ev) : List Value := [.int .i64 e.kind, .int .i64 e.user, .int .i64 e.session, .int .i64 e.address, .int .i64 e.a, .int .i64 e.b, .int .i64 e.c, .int .i64 e.tick]
theorem Ev.cs_len (e : Ev) : e.cs.length = 8 := rfl
def ecells : List Ev → List Value
  | [] => []
  | e :: es => e.cs ++ ecells es
theorem ecells_len (es : List Ev) : (ecells es).length = es.length * 8 := by
  induction es with
  | nil => rfl
  | cons e es ih => rw [ecells, List.length_append, ih, Ev.cs_len, List.length_cons]; omega
theorem ecells_app (es fs : List Ev) : ecells (es ++ fs) = ecells es ++ ecells fs := by
  induction es with
  | nil => rfl
  | cons e es ih => rw [List.cons_append, ecells, ih, ecells, List.append_assoc]
theorem ecells_at (es : List Ev) {j : Nat} (hj : j < es.length) {i : Nat} (hi : i < 8) : (ecells es)[j * 8 + i]? = (es.getD j Ev.zero).cs[i]? := by
  induction es generalizing j with
  | nil => cases hj
  | cons e es ih =>
    rw [ecells]
    cases j with
    | zero => rw [Nat.zero_mul, Nat.zero_add, List.getElem?_append_left (by rw [Ev.cs_len]; exact hi)]; rfl
    | succ j =>
      rw [List.getElem?_append_right (by rw [Ev.cs_len]; omega), Ev.cs_len, show (j + 1) * 8 + i - 8 = j * 8 + i by omega, ih (by simpa using hj)]
      rfl
theorem ecells_one (es : List Ev) : ∀ u ∈ ecells es, u.oneCell' = true := by
  induction es with
  | nil => intro u hu; cases hu
  | cons e es ih =>
    intro u hu
    rw [ecells] at hu
    rcases List.mem_append.1 hu with h | h
    · simp [Ev.cs] at h; rcases h with rfl | rfl | rfl | rfl | rfl | rfl | rfl | rfl <;> rfl
    · exact ih u h
def EsAt (w : World) (b off : Nat) (es : List Ev) : Prop := ∀ i u, (ecells es)[i]? = some u → w.cell? ⟨b, off + i, none⟩ = some u
theorem EsAt.elem {w : World} {b off : Nat} {es : List Ev} (h : EsAt w b off es) {j : Nat} (hj : j < es.length) : w.cell? ⟨b, off + j * 8, none⟩ = some (.int .i64 (es.getD j Ev.zero).kind) ∧ w.cell? ⟨b, off + j * 8 + 1, none⟩ = some (.int .i64 (es.getD j Ev.zero).user) ∧ w.cell? ⟨b, off + j * 8 + 2, none⟩ = some (.int .i64 (es.getD j Ev.zero).session) ∧
    w.cell? ⟨b, off + j * 8 + 3, none⟩ = some (.int .i64 (es.getD j Ev.zero).address) ∧ w.cell? ⟨b, off + j * 8 + 4, none⟩ = some (.int .i64 (es.getD j Ev.zero).a) ∧ w.cell? ⟨b, off + j * 8 + 5, none⟩ = some (.int .i64 (es.getD j Ev.zero).b) ∧ w.cell? ⟨b, off + j * 8 + 6, none⟩ = some (.int .i64 (es.getD j Ev.zero).c) ∧
    w.cell? ⟨b, off + j * 8 + 7, none⟩ = some (.int .i64 (es.getD j Ev.zero).tick) := by
  have key : ∀ i, i < 8 → w.cell? ⟨b, off + j * 8 + i, none⟩ = (es.getD j Ev.zero).cs[i]? := fun i hi => by
    have hx : ∃ u, (es.getD j Ev.zero).cs[i]? = some u := ⟨_, List.getElem?_eq_getElem (by rw [Ev.cs_len]; exact hi)⟩
    obtain ⟨u, hu⟩ := hx
    rw [hu, Nat.add_assoc]
    exact h _ u (by rw [ecells_at es hj hi]; exact hu)
  exact ⟨key 0 (by decide), key 1 (by decide), key 2 (by decide), key 3 (by decide), key 4 (by decide), key 5 (by decide), key 6 (by decide), key 7 (by decide)⟩
theorem EsAt.same {w w' : World} {b off : Nat} {es : List Ev} (h : EsAt w b off es) (hb : w'.heap[b]? = w.heap[b]?) : EsAt w' b off es := fun i u hu => (World.cell?_of_block (a := ⟨b, off + i, none⟩) hb).trans (h i u hu)
structure EsIn (F : List Nat) (w : World) (ao : Option Addr) (n : Nat) (es : List Ev) : Prop where
  len : n = es.length
  row : n = 0 ∨ ∃ b off, ao = some ⟨b, off, none⟩ ∧ EsAt w b off es ∧ b ∉ F ∧ b < w.heap.size
  few : n ≤ 140737488355328
theorem EsIn.tn {F : List Nat} {w W : World} {ao : Option Addr} {n : Nat} {es : List Ev} (h : EsIn F w ao n es) (ht : Tn F w W) : EsIn F W ao n es := by
  refine ⟨h.len, ?_, h.few⟩
  rcases h.row with c | ⟨b, off, e, h1, h2, h3⟩
  · exact .inl c
  · exact .inr ⟨b, off, e, h1.same (ht.block b h3 h2), h2, Nat.lt_of_lt_of_le h3 ht.size⟩
theorem up4 (A B C D E R : Ass) : (A.star (B.star (C.star (D.star (E.star R))))).imp (E.star (A.star (B.star (C.star (D.star R))))) := ((Ass.imp.up3 B C D E R).under A).trans (Ass.imp.swap A E _)
theorem dn4 (A B C D E R : Ass) : (E.star (A.star (B.star (C.star (D.star R))))).imp (A.star (B.star (C.star (D.star (E.star R))))) := (Ass.imp.swap E A _).trans ((Ass.imp.dn3 B C D E R).under A)
theorem up5 (A B C D E G R : Ass) : (A.star (B.star (C.star (D.star (E.star (G.star R)))))).imp (G.star (A.star (B.star (C.star (D.star (E.star R)))))) := ((up4 B C D E G R).under A).trans (Ass.imp.swap A G _)
theorem dn5 (A B C D E G R : Ass) : (G.star (A.star (B.star (C.star (D.star (E.star R)))))).imp (A.star (B.star (C.star (D.star (E.star (G.star R)))))) := (Ass.imp.swap G A _).trans ((dn4 B C D E G R).under A)
abbrev jcs (pb pd : Nat) (boot m : Int) (v : Value) (last : Int) (o : Bool) : Array Value := #[.pointer (some ⟨pb, 0, none⟩), .pointer (some ⟨pd, 0, none⟩), .int .i64 boot, .int .i64 m, v, .int .i64 last, .bool o]
abbrev JY (p pb pd : Nat) (most : Int) (ts : List ByteArray) (d : Dk) (c : Array Value) (v : Value) (all : List Ev) : Ass :=
  (ownA p c TJ).star ((rowE TE 8 v all.length (ecells all)).star ((bookA pb most ts).star ((dpA pd d).star emp)))
abbrev JX (p pb pd : Nat) (most : Int) (ts : List ByteArray) (d : Dk) (m : Int) (J : Jn) (v : Value) : Ass := JY p pb pd most ts d (jcs pb pd J.boot m v J.last J.over) v J.all
theorem JY_good (p pb pd : Nat) (most : Int) (ts : List ByteArray) (d : Dk) (c : Array Value) (v : Value) (all : List Ev) : (JY p pb pd most ts d c v all).Good := (ownA_good _ _ _).star ((rowE_good _ _ _ _ _).star ((bookA_good _ _ _).star ((dpA_good _ _).star emp_good)))
theorem JX_good (p pb pd : Nat) (most : Int) (ts : List ByteArray) (d : Dk) (m : Int) (J : Jn) (v : Value) : (JX p pb pd most ts d m J v).Good := JY_good _ _ _ _ _ _ _ _ _
def JA (p pb pd : Nat) (most : Int) (ts : List ByteArray) (d : Dk) (m : Int) (J : Jn) : Ass := fun w F => ∃ v, (J.all = [] → v = .slice none 0 0) ∧ JX p pb pd most ts d m J v w F
theorem JA_good (p pb pd : Nat) (most : Int) (ts : List ByteArray) (d : Dk) (m : Int) (J : Jn) : (JA p pb pd most ts d m J).Good := by
  rintro w F ⟨v, h0, h⟩
  obtain ⟨a, b⟩ := JX_good p pb pd most ts d m J v w F h
  exact ⟨a, fun w' hw' => ⟨v, h0, b w' hw'⟩⟩
section
variable {F : List Nat} {w W : World} {p pb pd : Nat} {most : Int} {ts : List ByteArray} {d : Dk} {m : Int} {J : Jn} {v : Value}
theorem Becomes.tn {A : Ass} (h : Becomes F A w W) : Tn F w W := by obtain ⟨_, _, h, _⟩ := h; exact h
theorem Becomes.exv (h : Becomes F (JA p pb pd most ts d m J) w W) : ∃ v, (J.all = [] → v = .slice none 0 0) ∧ Becomes F (JX p pb pd most ts d m J v) w W := by
  obtain ⟨F', ⟨v, h0, h1⟩, h2, h3⟩ := h
  exact ⟨v, h0, F', h1, h2, h3⟩
theorem Becomes.hidv (h : Becomes F (JX p pb pd most ts d m J v) w W) (h0 : J.all = [] → v = .slice none 0 0) : Becomes F (JA p pb pd most ts d m J) w W := by
  obtain ⟨F', h1, h2, h3⟩ := h
  exact ⟨F', ⟨v, h0, h1⟩, h2, h3⟩
theorem JX.cells (h : Becomes F (JX p pb pd most ts d m J v) w W) : W.cell? ⟨p, 0, none⟩ = some (.pointer (some ⟨pb, 0, none⟩)) ∧ W.cell? ⟨p, 1, none⟩ = some (.pointer (some ⟨pd, 0, none⟩)) ∧ W.cell? ⟨p, 2, none⟩ = some (.int .i64 J.boot) ∧ W.cell? ⟨p, 3, none⟩ = some (.int .i64 m) ∧
    W.cell? ⟨p, 4, none⟩ = some v ∧ W.cell? ⟨p, 5, none⟩ = some (.int .i64 J.last) ∧ W.cell? ⟨p, 6, none⟩ = some (.bool J.over) :=
  have h := h.own.1
  ⟨h 0, h 1, h 2, h 3, h 4, h 5, h 6⟩
theorem JX.frz (h : Becomes F (JX p pb pd most ts d m J v) w W) (i : Nat) : W.frozen? ⟨p, i, none⟩ = false := h.own.2.1 i
theorem JX.shape (h : Becomes F (JX p pb pd most ts d m J v) w W) : ∃ ao cap, v = .slice ao J.all.length cap := by
  obtain ⟨_, ⟨_, _, _, _, ⟨_, _, _, ⟨h, _⟩, _⟩, _⟩, _⟩ := h
  exact rowE_shape h
theorem Gd.tn (h : Gd w) (ht : Tn F w W) (hg : 0 ∉ F) : Gd W := (World.cell?_of_block (a := ⟨0, 0, none⟩) (ht.block _ h.pos hg)).trans h
theorem Becomes.opGN {P : Program} {A A' X X' R : Ass} {f : FuncId} {args : Array Value} {u : Ending} (hd : DoesG P A f args u A') (hi : X.imp (A.star R)) (hj : (A'.star R).imp X') (hR : R.Good) {w1 : World} (hg : Gd w1) (h : Becomes F X w w1) : Calls P f args w1 fun e w' => e = u ∧ Becomes F X' w w' := by
  obtain ⟨_, ⟨F1, F2, rfl, h1, h2, h3⟩, g2, g3⟩ := h.imp hi
  refine (hd w1 F1 h1 hg).mono ?_
  rintro e w' ⟨he, hk⟩
  refine ⟨he, Becomes.imp ?_ hj⟩
  obtain ⟨F', k1, k2, k3⟩ := hk.frameL hR h2 h3
  refine ⟨F', k1, g2.trans k2 g3, fun k hk => ?_⟩
  rcases k3 k hk with c | c
  · exact g3 k c
  · exact .inr (Nat.le_trans g2.size c)
theorem JX.disk {f : FuncId} {args : Array Value} {u : Ending} {d' : Dk} (hd : Does Tryz.prog (dpA pd d) f args u (dpA pd d')) (h : Becomes F (JX p pb pd most ts d m J v) w W) : Calls Tryz.prog f args W fun e w' => e = u ∧ Becomes F (JX p pb pd most ts d' m J v) w w' :=
  Becomes.opN hd (Ass.imp.up3 _ _ _ _ _) (Ass.imp.dn3 _ _ _ _ _) ((ownA_good _ _ _).star ((rowE_good _ _ _ _ _).star ((bookA_good _ _ _).star emp_good))) h
theorem JX.book {f : FuncId} {args : Array Value} {u : Ending} {ts' : List ByteArray} (hd : Does Tryz.prog (bookA pb most ts) f args u (bookA pb most ts')) (h : Becomes F (JX p pb pd most ts d m J v) w W) : Calls Tryz.prog f args W fun e w' => e = u ∧ Becomes F (JX p pb pd most ts' d m J v) w w' :=
  Becomes.opN hd (Ass.imp.up2 _ _ _ _) (Ass.imp.dn2 _ _ _ _) ((ownA_good _ _ _).star ((rowE_good _ _ _ _ _).star ((dpA_good _ _).star emp_good))) h
theorem JX.bookG {f : FuncId} {args : Array Value} {u : Ending} {ts' : List ByteArray} (hd : DoesG Tryz.prog (bookA pb most ts) f args u (bookA pb most ts')) (hg : Gd W) (h : Becomes F (JX p pb pd most ts d m J v) w W) : Calls Tryz.prog f args W fun e w' => e = u ∧ Becomes F (JX p pb pd most ts' d m J v) w w' :=
  Becomes.opGN hd (Ass.imp.up2 _ _ _ _) (Ass.imp.dn2 _ _ _ _) ((ownA_good _ _ _).star ((rowE_good _ _ _ _ _).star ((dpA_good _ _).star emp_good))) hg h
theorem JX.lay (h : Becomes F (JX p pb pd most ts d m J v) w W) {W' : World} (hb : Below W.heap.size W W') : Becomes F (JX p pb pd most ts d m J v) w W' := Becomes.lay (JX_good _ _ _ _ _ _ _ _ _) h hb
theorem JY.set {c : Array Value} {all : List Ev} (h : Becomes F (JY p pb pd most ts d c v all) w W) (i : Nat) (u : Value) : Becomes F (JY p pb pd most ts d (c.setIfInBounds i u) v all) w (W.setCell ⟨p, i, none⟩ u) :=
  h.poke ((rowE_good _ _ _ _ _).star ((bookA_good _ _ _).star ((dpA_good _ _).star emp_good))) i u
theorem JY.row {c : Array Value} {all : List Ev} (h : Becomes F (JY p pb pd most ts d c v all) w W) : W.ownsRow 0 TE 8 v all.length (ecells all) := by
  obtain ⟨_, ⟨_, _, _, _, ⟨_, _, _, ⟨h, _⟩, _⟩, _⟩, _⟩ := h
  exact h
theorem JY.appended {c : Array Value} {all es : List Ev} {v' : Value} {n : Nat} {W' : World} (h : Becomes F (JY p pb pd most ts d c v all) w W) (hn : n = es.length) (hr : W'.ownsRow 0 TE 8 v' (all.length + n) (ecells all ++ ecells es)) (hg : W.grownBy W' v.ownBlock)
    (hloc : v'.ownBlock = v.ownBlock ∨ ∃ k, W.heap.size ≤ k ∧ v'.ownBlock = some k) : Becomes F (JY p pb pd most ts d c v' (all ++ es)) w W' := by
  have h1 := h.imp (Ass.imp.swap _ _ _)
  refine (Becomes.appendedE ((ownA_good _ _ _).star ((bookA_good _ _ _).star ((dpA_good _ _).star emp_good))) h1 hg ?_ hloc).imp (Ass.imp.swap _ _ _)
  rw [List.length_append, ecells_app, ← hn]
  exact hr
theorem JY.appended1 {A : Ass} (hA : A.Good) {c : Array Value} {all es : List Ev} {v' : Value} {n : Nat} {W' : World} (h : Becomes F (A.star (JY p pb pd most ts d c v all)) w W) (hn : n = es.length) (hr : W'.ownsRow 0 TE 8 v' (all.length + n) (ecells all ++ ecells es)) (hg : W.grownBy W' v.ownBlock)
    (hloc : v'.ownBlock = v.ownBlock ∨ ∃ k, W.heap.size ≤ k ∧ v'.ownBlock = some k) : Becomes F (A.star (JY p pb pd most ts d c v' (all ++ es))) w W' := by
  have h1 := h.imp (Ass.imp.up2 _ _ _ _)
  refine (Becomes.appendedE (hA.star ((ownA_good _ _ _).star ((bookA_good _ _ _).star ((dpA_good _ _).star emp_good)))) h1 hg ?_ hloc).imp (Ass.imp.dn2 _ _ _ _)
  rw [List.length_append, ecells_app, ← hn]
  exact hr
theorem JY.set1 {A : Ass} (hA : A.Good) {c : Array Value} {all : List Ev} (h : Becomes F (A.star (JY p pb pd most ts d c v all)) w W) (i : Nat) (u : Value) : Becomes F (A.star (JY p pb pd most ts d (c.setIfInBounds i u) v all)) w (W.setCell ⟨p, i, none⟩ u) :=
  (Becomes.poke (hA.star ((rowE_good _ _ _ _ _).star ((bookA_good _ _ _).star ((dpA_good _ _).star emp_good)))) (h.imp (Ass.imp.swap _ _ _)) i u).imp (Ass.imp.swap _ _ _)
end
open Go Go.RowKit
theorem pk_cases (ts : List ByteArray) (s t : ByteArray) : (pkE ts s t = 1001 ∧ pkX ts s t = 0 ∧ pkP ts s t = 0) ∨ (pkE ts s t = 0 ∧ 1 ≤ pkX ts s t ∧ pkX ts s t ≤ 1023 ∧ (pkP ts s t = 0 ∨ pkP ts s t = 1)) := by
  rcases sg_cases ts s with ⟨a, a1, a2⟩ | ⟨a, a1⟩ <;> rcases sg_cases ts t with ⟨b, b1, b2⟩ | ⟨b, b1⟩
  · by_cases hc : sgX ts t ≤ sgX ts s
    · obtain ⟨q1, q2, q3⟩ := pk_ge a b hc
      exact .inr ⟨q3, by omega, by omega, .inr q2⟩
    · obtain ⟨q1, q2, q3⟩ := pk_lt a b (by omega)
      exact .inr ⟨q3, by omega, by omega, .inl q2⟩
  · obtain ⟨q1, q2, q3⟩ := pk_one a b
    exact .inr ⟨q3, by omega, by omega, .inr q2⟩
  · obtain ⟨q1, q2, q3⟩ := pk_two a b
    exact .inr ⟨q3, by omega, by omega, .inl q2⟩
  · obtain ⟨q1, q2, q3⟩ := pk_none a b
    exact .inl ⟨q3, q1, q2⟩
section
variable {F : List Nat} {w W : World} {p pb pd : Nat} {most : Int} {ts : List ByteArray} {d : Dk} {m : Int} {J : Jn} {v : Value}
set_option maxHeartbeats 1000000 in
theorem jread (h : Becomes F (JX p pb pd most ts d m J v) w W) (i : Int) : Calls Tryz.prog 74 #[.pointer (some ⟨p, 0, none⟩), .int .i64 i] W fun e w' => ∃ er, e = .returned (.tuple #[.string (d.rdS i), er]) ∧ Er w' er (d.rdE i) ∧ Becomes F (JX p pb pd most ts d m J v) w w' := by
  obtain ⟨-, c1, -⟩ := JX.cells h
  have H := Lib.hid (JX.disk (kpread pd d i) h)
  generalize d.rdS i = S at *
  generalize d.rdE i = E at *
  clear h
  go_enter Tryz.func74, Tryz.ntmps74
  go_wp2_with (first
    | (go_at_call 40; (with_reducible refine H.out.mono ?_); rintro e w1 ⟨rfl, h1⟩)
    | (go_at_call 86; (with_reducible refine (fltof _ _ _ _).mono ?_); rintro e w2 ⟨er, rfl, hE, hb⟩))
  go_ret2
  exact ⟨er, rfl, hE, JX.lay h1 hb⟩
set_option maxHeartbeats 1000000 in
theorem jput (h : Becomes F (JX p pb pd most ts d m J v) w W) (hn : d.waits.length ≤ 1000000) (i : Int) (s : ByteArray) : Calls Tryz.prog 73 #[.pointer (some ⟨p, 0, none⟩), .int .i64 i, .string s] W fun e w' => ∃ er, e = .returned er ∧ Er w' er (d.wrE i s) ∧ Becomes F (JX p pb pd most ts (d.wr i s) m J v) w w' := by
  obtain ⟨-, c1, -⟩ := JX.cells h
  have H := Lib.hid (JX.disk (kpwrite pd d i s hn) h)
  generalize d.wrE i s = E at *
  generalize d.wr i s = D at *
  clear h
  go_enter Tryz.func73, Tryz.ntmps73
  go_wp2_with (first
    | (go_at_call 20; (with_reducible refine H.out.mono ?_); rintro e w1 ⟨rfl, h1⟩)
    | (go_at_call 86; (with_reducible refine (fltof _ _ _ _).mono ?_); rintro e w2 ⟨er, rfl, hE, hb⟩))
  go_ret
  exact ⟨er, rfl, hE, JX.lay h1 hb⟩
set_option maxHeartbeats 1000000 in
theorem jflush (h : Becomes F (JX p pb pd most ts d m J v) w W) : Calls Tryz.prog 68 #[.pointer (some ⟨p, 0, none⟩)] W fun e w' => ∃ er, e = .returned er ∧ Er w' er d.flE ∧ Becomes F (JX p pb pd most ts d.fl m J v) w w' := by
  obtain ⟨-, c1, -⟩ := JX.cells h
  have H := Lib.hid (JX.disk (kpflush pd d) h)
  generalize d.flE = E at *
  generalize d.fl = D at *
  clear h
  go_enter Tryz.func68, Tryz.ntmps68
  go_wp2_with (first
    | (go_at_call 87; (with_reducible refine H.out.mono ?_); rintro e w1 ⟨rfl, h1⟩)
    | (go_at_call 86; (with_reducible refine (fltof _ _ _ _).mono ?_); rintro e w2 ⟨er, rfl, hE, hb⟩))
  go_ret
  exact ⟨er, rfl, hE, JX.lay h1 hb⟩
theorem jseq (h : Becomes F (JX p pb pd most ts d m J v) w W) (hn : J.all.length ≤ 1000000) : Calls Tryz.prog 94 #[.pointer (some ⟨p, 0, none⟩)] W fun e w' => e = .returned (.int .i64 ((J.all.length : Int) + 1)) ∧ W = w' := by
  obtain ⟨-, -, -, -, c4, -⟩ := JX.cells h
  obtain ⟨ao, cap, rfl⟩ := JX.shape h
  generalize J.all.length = n at *
  clear h
  go_enter Tryz.func94, Tryz.ntmps94
  go_wp2
  go_ret
  exact ⟨rfl, rfl⟩
theorem jroom (h : Becomes F (JX p pb pd most ts d m J v) w W) (hn : J.all.length ≤ 1000000) (hm : 0 ≤ m) (hm2 : m ≤ 1000000) : Calls Tryz.prog 30 #[.pointer (some ⟨p, 0, none⟩)] W fun e w' => e = .returned (.int .i64 (m - J.all.length)) ∧ Below W.heap.size W w' := by
  obtain ⟨-, -, -, c3, c4, -⟩ := JX.cells h
  obtain ⟨ao, cap, rfl⟩ := JX.shape h
  generalize J.all.length = n at *
  clear h
  have hb := bdrew W
  go_enter Tryz.func30, Tryz.ntmps30
  go_wp2
  go_region
  all_goals
    go_wp2
    go_ret
    exact ⟨rfl, hb⟩
end
def joN (n : Int) : Int := if n = 0 then 0 else if n = 800 ∨ n = 700 then 1100 else if n = 1101 ∨ n = 1000 ∨ n = 900 then 1101 else 1102
set_option maxHeartbeats 1000000 in
theorem jerrno {W : World} {v : Value} {n : Int} (h : Er W v n) (hn : n = 0 ∨ n = 700 ∨ n = 800 ∨ n = 801 ∨ n = 900 ∨ n = 1000 ∨ n = 1101 ∨ n = 1102) : Calls Tryz.prog 47 #[v] W fun e w' => e = .returned (.int .i64 (joN n)) ∧ W = w' := by
  have H := fun (m : Int) (hm : m ≠ 0) => Lib.hid (eris h hm)
  rcases h with ⟨rfl, rfl⟩ | ⟨h0, b, rfl, h1⟩
  · clear H
    go_enter Tryz.func47, Tryz.ntmps47
    go_wp2
    go_ret
    exact ⟨rfl, rfl⟩
  · have H8 := H 800 (by decide)
    have H7 := H 700 (by decide)
    have H11 := H 1101 (by decide)
    have H10 := H 1000 (by decide)
    have H9 := H 900 (by decide)
    clear H h1
    rcases hn with rfl | rfl | rfl | rfl | rfl | rfl | rfl | rfl
    · exact absurd rfl h0
    all_goals
      clear h0
      go_enter Tryz.func47, Tryz.ntmps47
      go_wp2_with (go_at_call 67; (first | with_reducible refine H8.out.mono ?_ | with_reducible refine H7.out.mono ?_ | with_reducible refine H11.out.mono ?_ | with_reducible refine H10.out.mono ?_ | with_reducible refine H9.out.mono ?_); rintro e w' ⟨rfl, rfl⟩)
      go_ret
      exact ⟨rfl, rfl⟩
section
variable {F : List Nat} {w W : World} {p pb pd : Nat} {most : Int} {ts : List ByteArray} {d : Dk} {m : Int} {J : Jn} {v : Value}
theorem er_nil {w : World} {v : Value} (h : Er w v 0) : v = .nilIface := by
  rcases h with ⟨_, h⟩ | ⟨h0, _⟩
  · exact h
  · exact absurd rfl h0
theorem Dk.rd_up {d : Dk} (ho : d.Ok) (hd : d.down = false) {i : Nat} (hi : i < d.kept.length) : (d.rdS (i : Int)).size = 64 ∧ d.rdE (i : Int) = 0 := by
  have hh : d.has (i : Int) = true := (Dk.has_iff _ _).2 ⟨by omega, by omega⟩
  unfold Dk.rdS Dk.rdE
  rw [hd, hh, Int.toNat_natCast]
  exact ⟨getD_sz (keepAll_sz ho.sz fun x hx => (ho.ws x hx).2) (by rw [keepAll_len]; exact hi), rfl⟩
set_option maxHeartbeats 2000000 in
theorem jnext (h : Becomes F (JX p pb pd most ts d m J v) w W) (hg : Gd w) (hF : 0 ∉ F) (ho : d.Ok) (hd : d.down = false) (hk3 : 3 ≤ d.kept.length) : Calls Tryz.prog 96 #[.pointer (some ⟨p, 0, none⟩)] W fun e w' => e = .returned (.tuple #[.int .i64 (joB ts d), .int .i64 (joP ts d), .nilIface]) ∧ Becomes F (JX p pb pd most ts d m J v) w w' := by
  obtain ⟨z0, e0⟩ := Dk.rd_up ho hd (i := 0) (by omega)
  obtain ⟨z1, e1⟩ := Dk.rd_up ho hd (i := 1) (by omega)
  have R0 := fun W (h : Becomes F (JX p pb pd most ts d m J v) w W) => jread h ((0 : Nat) : Int)
  have R1 := fun W (h : Becomes F (JX p pb pd most ts d m J v) w W) => jread h ((1 : Nat) : Int)
  have P0 := fun W (h : Becomes F (JX p pb pd most ts d m J v) w W) => JX.bookG (dspick pb most ts (d.rdS ((0 : Nat) : Int)) (d.rdS ((1 : Nat) : Int)) (by omega) (by omega)) (hg.tn h.tn hF) h
  have hk := pk_cases ts (d.rdS ((0 : Nat) : Int)) (d.rdS ((1 : Nat) : Int))
  rw [show joB ts d = pkX ts (d.rdS ((0 : Nat) : Int)) (d.rdS ((1 : Nat) : Int)) + 1 from rfl, show joP ts d = pkP ts (d.rdS ((0 : Nat) : Int)) (d.rdS ((1 : Nat) : Int)) from rfl]
  rw [e0] at R0
  rw [e1] at R1
  simp only [Int.ofNat_zero, Int.natCast_one] at R0 R1
  generalize pkX ts (d.rdS ((0 : Nat) : Int)) (d.rdS ((1 : Nat) : Int)) = X at *
  generalize pkP ts (d.rdS ((0 : Nat) : Int)) (d.rdS ((1 : Nat) : Int)) = P at *
  generalize pkE ts (d.rdS ((0 : Nat) : Int)) (d.rdS ((1 : Nat) : Int)) = E at *
  generalize d.rdS ((0 : Nat) : Int) = S0 at *
  generalize d.rdS ((1 : Nat) : Int) = S1 at *
  have HC := Lib.hid (fun W (h : Becomes F (JX p pb pd most ts d m J v) w W) => (JX.cells h).1)
  have HL := Lib.hid (fun W (h : Becomes F (JX p pb pd most ts d m J v) w W) W' (hb : Below W.heap.size W W') => JX.lay h hb)
  have R0 := Lib.hid R0
  have R1 := Lib.hid R1
  have P0 := Lib.hid P0
  clear z0 z1 e0 e1 hg hk3 hd ho
  rcases hk with ⟨rfl, rfl, rfl⟩ | ⟨rfl, x1, x2, hp⟩
  all_goals
    go_enter Tryz.func96, Tryz.ntmps96
    go_wp2_with (first
      | (go_at_call 74; (with_reducible refine (R0.out _ h).mono ?_); rintro e w1 ⟨er, rfl, hE, h1⟩; obtain rfl := er_nil hE; clear hE)
      | (go_at_call 74; (with_reducible refine (R1.out _ h1).mono ?_); rintro e w2 ⟨er, rfl, hE, h2⟩; obtain rfl := er_nil hE; clear hE; have k0 := HC.out _ h2)
      | (go_at_call 107; (with_reducible refine (P0.out _ h2).mono ?_); rintro e w3 ⟨rfl, h3⟩)
      | (go_at_call 86; (with_reducible refine (fltof _ _ _ _).mono ?_); rintro e w4 ⟨er, rfl, hE, hb⟩)
      | (go_at_call 67; (with_reducible refine (eris hE (by decide)).mono ?_); rintro e w5 ⟨rfl, rfl⟩))
  · go_ret3
    exact ⟨rfl, HL.out _ h3 _ hb⟩
  · obtain rfl := er_nil hE
    go_ret3
    exact ⟨rfl, HL.out _ h3 _ hb⟩
end
open Go Go.RowKit
section
variable {P : Program} {ops : Array Oper} {Q : Exit → Act → World → Prop} {S : World → Prop} {fuel : Nat} {listed : Array Bool} {a : Act} {w : World}
theorem jtwo (i j : Nat) (hr : Region.ready .any ops listed = [i, j]) (h1 : wpOp P ops Q i (fun a' w' => S w' ∧ wpAnyH P .any ops Q S fuel (listed.setIfInBounds i true) a' w') a w)
    (h2 : wpOp P ops Q j (fun a' w' => S w' ∧ wpAnyH P .any ops Q S fuel (listed.setIfInBounds j true) a' w') a w) : wpAnyH P .any ops Q S (fuel + 1) listed a w := by
  refine wpAnyH_all hr (by simp) (fun k hk => ?_)
  have hk : k = i ∨ k = j := by simpa using hk
  rcases hk with rfl | rfl
  · exact h1
  · exact h2
theorem jop_one (i : Nat) (o : Oper) (dst : Option Tmp) (v : Value) (w' : World) (ho : ops[i]? = some o) (hd : o.dst = dst) (hw : Region.wanted o (yielded ops a.tmps) = true)
    (hrun : (execOp a.eval o).run P w = .ok (.value v) w') (hS : S w') (h : wpAnyH P .any ops Q S fuel (listed.setIfInBounds i true) (a.put dst v) w') : wpOp P ops Q i (fun a' w' => S w' ∧ wpAnyH P .any ops Q S fuel (listed.setIfInBounds i true) a' w') a w := by
  subst hd
  refine wpOp_step ho (fun K hK => ?_)
  rw [if_pos hw]
  unfold Oper.wp
  rw [hrun, Oper.upon_value]
  exact hK _ _ ⟨hS, h⟩
theorem jop_call (i : Nat) (o : Oper) (dst : Option Tmp) (v : Value) (R : World → Prop) (f : FuncId) (args : Array Value) (ho : ops[i]? = some o) (hd : o.dst = dst) (hw : Region.wanted o (yielded ops a.tmps) = true)
    (hrun : (execOp a.eval o).run P w = .ok (.enter f args) w) (hc : Calls P f args w fun e w' => e = .returned v ∧ R w') (hS : ∀ w', R w' → S w')
    (h : ∀ w', R w' → wpAnyH P .any ops Q S fuel (listed.setIfInBounds i true) (a.put dst v) w') : wpOp P ops Q i (fun a' w' => S w' ∧ wpAnyH P .any ops Q S fuel (listed.setIfInBounds i true) a' w') a w := by
  subst hd
  refine wpOp_step ho (fun K hK => ?_)
  rw [if_pos hw]
  unfold Oper.wp
  rw [hrun, Oper.upon_enter]
  refine hc.mono ?_
  rintro e w' ⟨rfl, hR⟩
  exact hK _ _ ⟨hS w' hR, h w' hR⟩
end
theorem jexec_alloc_rc {a : Act} {w : World} {op : Oper} (ho : op.op = .alloc 74) : (execOp a.eval op).run Tryz.prog w = .ok (.value (.pointer (some ⟨w.heap.size, 0, Option.none⟩))) (w.alloc (.cells Z11 74)) := by
  unfold execOp
  simp only [ho, Sem.run_bind]
  go_simp
theorem jexec_store_rc {a : Act} {w : World} {op : Oper} (x y : Operand) (ho : op.op = .store 74 x y) (x0 x1 x2 x3 x4 x5 x6 x7 x8 x9 x10 : Int) (hx : a.eval x = .pointer (some ⟨w.heap.size, 0, Option.none⟩)) (hy : a.eval y = .agg #[.int .i64 x0, .int .i64 x1, .int .i64 x2, .int .i64 x3, .int .i64 x4, .int .i64 x5, .int .i64 x6, .int .i64 x7, .int .i64 x8, .int .i64 x9, .int .i64 x10]) :
    (execOp a.eval op).run Tryz.prog (w.alloc (.cells Z11 74)) = .ok .skip (w.alloc (.cells #[.int .i64 x0, .int .i64 x1, .int .i64 x2, .int .i64 x3, .int .i64 x4, .int .i64 x5, .int .i64 x6, .int .i64 x7, .int .i64 x8, .int .i64 x9, .int .i64 x10] 74)) := by
  unfold execOp
  simp only [ho, hx, hy, Sem.run_bind]
  go_simp
theorem jexec_store_own {a : Act} {w : World} {op : Oper} (x y : Operand) (ho : op.op = .store 74 x y) (b : Nat) (e1 : ∀ i, w.cell? ⟨b, i, Option.none⟩ = Z11[i]?) (f1 : ∀ i, w.frozen? ⟨b, i, Option.none⟩ = false) (_ : b < w.heap.size) (x0 x1 x2 x3 x4 x5 x6 x7 x8 x9 x10 : Int) (hx : a.eval x = .pointer (some ⟨b, 0, Option.none⟩)) (hy : a.eval y = .agg #[.int .i64 x0, .int .i64 x1, .int .i64 x2, .int .i64 x3, .int .i64 x4, .int .i64 x5, .int .i64 x6, .int .i64 x7, .int .i64 x8, .int .i64 x9, .int .i64 x10]) :
    (execOp a.eval op).run Tryz.prog w = .ok .skip (((((((((((w.setCell ⟨b, 0, Option.none⟩ (.int .i64 x0)).setCell ⟨b, 1, Option.none⟩ (.int .i64 x1)).setCell ⟨b, 2, Option.none⟩ (.int .i64 x2)).setCell ⟨b, 3, Option.none⟩ (.int .i64 x3)).setCell ⟨b, 4, Option.none⟩ (.int .i64 x4)).setCell ⟨b, 5, Option.none⟩ (.int .i64 x5)).setCell ⟨b, 6, Option.none⟩ (.int .i64 x6)).setCell ⟨b, 7, Option.none⟩ (.int .i64 x7)).setCell ⟨b, 8, Option.none⟩ (.int .i64 x8)).setCell ⟨b, 9, Option.none⟩ (.int .i64 x9)).setCell ⟨b, 10, Option.none⟩ (.int .i64 x10)) := by
  unfold execOp
  simp only [ho, hx, hy, Sem.run_bind]
  go_simp
theorem Becomes.poke_all {F : List Nat} {b : Nat} {T : TypeId} {C : Ass} {w0 w : World} (hC : C.Good) (x0 x1 x2 x3 x4 x5 x6 x7 x8 x9 x10 : Int) (h : Becomes F ((ownA b Z11 T).star C) w0 w) : Becomes F ((ownA b #[.int .i64 x0, .int .i64 x1, .int .i64 x2, .int .i64 x3, .int .i64 x4, .int .i64 x5, .int .i64 x6, .int .i64 x7, .int .i64 x8, .int .i64 x9, .int .i64 x10] T).star C) w0 (((((((((((w.setCell ⟨b, 0, Option.none⟩ (.int .i64 x0)).setCell ⟨b, 1, Option.none⟩ (.int .i64 x1)).setCell ⟨b, 2, Option.none⟩ (.int .i64 x2)).setCell ⟨b, 3, Option.none⟩ (.int .i64 x3)).setCell ⟨b, 4, Option.none⟩ (.int .i64 x4)).setCell ⟨b, 5, Option.none⟩ (.int .i64 x5)).setCell ⟨b, 6, Option.none⟩ (.int .i64 x6)).setCell ⟨b, 7, Option.none⟩ (.int .i64 x7)).setCell ⟨b, 8, Option.none⟩ (.int .i64 x8)).setCell ⟨b, 9, Option.none⟩ (.int .i64 x9)).setCell ⟨b, 10, Option.none⟩ (.int .i64 x10)) := by
  have h1 := ((((((((((h.poke hC 0 (.int .i64 x0)).poke hC 1 (.int .i64 x1)).poke hC 2 (.int .i64 x2)).poke hC 3 (.int .i64 x3)).poke hC 4 (.int .i64 x4)).poke hC 5 (.int .i64 x5)).poke hC 6 (.int .i64 x6)).poke hC 7 (.int .i64 x7)).poke hC 8 (.int .i64 x8)).poke hC 9 (.int .i64 x9)).poke hC 10 (.int .i64 x10)
  simpa only [Z11, List.setIfInBounds_toArray, List.set_cons_zero, List.set_cons_succ] using h1
theorem jexec_seq {a : Act} {w : World} {op : Oper} (x : Operand) (ho : op.op = .call { callee := .value (.func 94), args := #[x], argTypes := #[32] }) {u : Value} (hx : a.eval x = u) : (execOp a.eval op).run Tryz.prog w = .ok (.enter 94 #[u]) w := by
  unfold execOp
  simp only [ho, resolve, Sem.run_bind, List.map_toArray, List.map_cons, List.map_nil, hx]
  go_simp
theorem jexec_get {a : Act} {w : World} {op : Oper} (x y z t : Operand) (ho : op.op = .call { callee := .value (.func 109), args := #[x, y, z, t], argTypes := #[23, 9, 3, 3] }) {u v r q : Value} (hx : a.eval x = u) (hy : a.eval y = v) (hz : a.eval z = r) (ht : a.eval t = q) : (execOp a.eval op).run Tryz.prog w = .ok (.enter 109 #[u, v, r, q]) w := by
  unfold execOp
  simp only [ho, resolve, Sem.run_bind, List.map_toArray, List.map_cons, List.map_nil, hx, hy, hz, ht]
  go_simp
theorem jexec_put {a : Act} {w : World} {op : Oper} (x y : Operand) (ho : op.op = .call { callee := .value (.func 95), args := #[x, y], argTypes := #[23, 74] }) {u v : Value} (hx : a.eval x = u) (hy : a.eval y = v) : (execOp a.eval op).run Tryz.prog w = .ok (.enter 95 #[u, v]) w := by
  unfold execOp
  simp only [ho, resolve, Sem.run_bind, List.map_toArray, List.map_cons, List.map_nil, hx, hy]
  go_simp
theorem fillE (x0 x1 x2 x3 x4 x5 x6 x7 : Int) : Instr.fill (fun i => some (i * 8, 8)) ((Array.range (1 * 8)).map ((Value.agg #[.int .i64 0, .int .i64 0, .int .i64 0, .int .i64 0, .int .i64 0, .int .i64 0, .int .i64 0, .int .i64 0]).cells[· % (Value.agg #[.int .i64 0, .int .i64 0, .int .i64 0, .int .i64 0, .int .i64 0, .int .i64 0, .int .i64 0, .int .i64 0]).cells.size]!)) #[(0, Value.agg #[.int .i64 x0, .int .i64 x1, .int .i64 x2, .int .i64 x3, .int .i64 x4, .int .i64 x5, .int .i64 x6, .int .i64 x7])].toList = some #[.int .i64 x0, .int .i64 x1, .int .i64 x2, .int .i64 x3, .int .i64 x4, .int .i64 x5, .int .i64 x6, .int .i64 x7] := by kernel_rfl
theorem jexec_slice_ev {a : Act} {w : World} {op : Oper} (y : Operand) (ho : op.op = .buildSlice 36 1 #[(0, y)]) (x : Ev) (hy : a.eval y = .agg #[.int .i64 x.kind, .int .i64 x.user, .int .i64 x.session, .int .i64 x.address, .int .i64 x.a, .int .i64 x.b, .int .i64 x.c, .int .i64 x.tick]) :
    (execOp a.eval op).run Tryz.prog w = .ok (.value (.slice (some ⟨w.heap.size, 0, none⟩) 1 1)) (w.alloc (.cells x.cs.toArray TE)) := by
  obtain ⟨ie, hie, hz, hs, _⟩ := info_parts infoEv
  have hrun := run_buildSlice (P := Tryz.prog) w 36 TE 1 #[(0, .agg #[.int .i64 x.kind, .int .i64 x.user, .int .i64 x.session, .int .i64 x.address, .int .i64 x.a, .int .i64 x.b, .int .i64 x.c, .int .i64 x.tick])] x.cs.toArray ie _ Tryz.underlying36 hie hz (by rw [hs]; decide) (by rw [hs]; decide) (by rw [hs]; exact fillE _ _ _ _ _ _ _ _)
  unfold execOp
  simp only [ho, List.map_toArray, List.map_cons, List.map_nil, hy, Sem.run_bind, hrun, Result.andThen_ok, Sem.run_pure]
theorem run_app_ev {w : World} {v : Value} {es : List Ev} (ty : TypeId) (all : List Ev) (hown : w.ownsRow 0 TE 8 v all.length (ecells all)) (ao : Option Addr) (k c : Nat) (hk : k = es.length) (hf : all.length + k ≤ 1000000) (hc : (ao = none ∧ k = 0 ∧ c = 0) ∨ ∃ b off, ao = some ⟨b, off, none⟩ ∧ EsAt w b off es) :
    ∃ v' w', (Builtin.append_ #[36, 36] ty #[v, .slice ao k c]).run Tryz.prog w = .ok v' w' ∧ w'.ownsRow 0 TE 8 v' (all.length + k) (ecells all ++ ecells es) ∧ w.grownBy w' v.ownBlock ∧ (v' = .slice none 0 0 ↔ v = .slice none 0 0 ∧ k = 0) ∧ (v'.ownBlock = v.ownBlock ∨ v'.ownBlock = some w.heap.size) := by
  obtain ⟨i, hi, hz0, hz1, hz2⟩ := info_parts infoEv
  rcases hc with ⟨rfl, rfl, rfl⟩ | ⟨b, off, rfl, he⟩
  · have hes : es = [] := List.length_eq_zero_iff.1 hk.symm
    subst hes
    refine ⟨v, w, run_append_owned_none (P := Tryz.prog) (w := w) 0 36 ty TE i 8 Tryz.underlying36 hi v _ _ hown, ?_, World.grownBy.refl _ _, by simp, .inl rfl⟩
    simpa [ecells] using hown
  · exact run_append_own_at (P := Tryz.prog) w 0 36 ty TE i _ 8 64 Tryz.underlying36 hi hz0 hz1 hz2 rfl (by decide) v all.length (ecells all) hown ⟨b, off, none⟩ k c (ecells es) (by rw [ecells_len, hk]) (fun j u hj => by rw [Addr.add_lit]; exact he j u hj) (ecells_one es) (by unfold maxLen; omega) (by omega) (Nat.zero_le _)
theorem store_es {w : World} (p i : Nat) (ao : Option Addr) (n c : Nat) {u : Value} (hc : w.cell? ⟨p, i, none⟩ = some u) (hf : w.frozen? ⟨p, i, none⟩ = false) : (Instr.storeAt 36 (.pointer (some ⟨p, i, none⟩)) (.slice ao n c)).run Tryz.prog w = .ok () (w.setCell ⟨p, i, none⟩ (.slice ao n c)) := by
  go_simp
theorem jexec_load_es {a : Act} {w : World} {op : Oper} (y : Operand) (ho : op.op = .load 36 y) (p i : Nat) (hy : a.eval y = .pointer (some ⟨p, i, none⟩)) {ao : Option Addr} {n c : Nat} (hc : w.cell? ⟨p, i, none⟩ = some (.slice ao n c)) : (execOp a.eval op).run Tryz.prog w = .ok (.value (.slice ao n c)) w := by
  unfold execOp
  simp only [ho, hy, Sem.run_bind]
  go_simp
theorem EsAt.new (w : World) (e : Ev) : EsAt (w.alloc (.cells e.cs.toArray TE)) w.heap.size 0 [e] := fun i u hu => by
  rw [Nat.zero_add, cell_of_row _ w.heap.size i _ _ _ (heap_alloc_new w _), List.getElem?_toArray]
  simpa [ecells] using hu
open Go Go.RowKit
abbrev tk0 : Oper := ⟨some 9, .move (.tmp 0), 32, "journal.go:177", #[], none⟩
abbrev tk1 : Oper := ⟨some 10, .nilCheck (.tmp 9), 0, "journal.go:177", #[⟨0, .data⟩], none⟩
abbrev tk2 : Oper := ⟨some 11, .fieldAddr 100 (.tmp 10) 0, 0, "journal.go:177", #[⟨1, .data⟩], none⟩
abbrev tk3 : Oper := ⟨some 12, .load 23 (.tmp 11), 23, "journal.go:177", #[⟨2, .data⟩], none⟩
abbrev tk4 : Oper := ⟨some 13, .move (.tmp 1), 9, "journal.go:177", #[], none⟩
abbrev tk5 : Oper := ⟨some 14, .move (.tmp 0), 32, "journal.go:177", #[], none⟩
abbrev tk6 : Oper := ⟨some 15, .call { callee := .value (.func 94), args := #[.tmp 14], argTypes := #[32] }, 3, "journal.go:177", #[⟨5, .data⟩], none⟩
abbrev tk7 : Oper := ⟨some 16, .move (.tmp 0), 32, "journal.go:177", #[], none⟩
abbrev tk8 : Oper := ⟨some 17, .nilCheck (.tmp 16), 0, "journal.go:177", #[⟨7, .data⟩], none⟩
abbrev tk9 : Oper := ⟨some 18, .fieldAddr 100 (.tmp 17) 5, 0, "journal.go:177", #[⟨8, .data⟩], none⟩
abbrev tk10 : Oper := ⟨some 19, .load 3 (.tmp 18), 3, "journal.go:177", #[⟨9, .data⟩], none⟩
abbrev tk11 : Oper := { dst := some 20, op := Op.call { callee := Callee.value (Operand.func 109), args := #[Operand.tmp 12, Operand.tmp 13, Operand.tmp 15, Operand.tmp 19], argTypes := #[23, 9, 3, 3] }, type := 193, pos := "journal.go:177", after := #[{ on := 3, ground := Ground.data }, { on := 4, ground := Ground.data }, { on := 6, ground := Ground.data }, { on := 10, ground := Ground.data }, { on := 6, ground := Ground.chain }], guard := none }
abbrev tk12 : Oper := { dst := some 8, op := Op.move (Operand.tmp 20), type := 193, pos := "journal.go:177", after := #[{ on := 11, ground := Ground.data }], guard := none }
abbrev tk13 : Oper := ⟨some 21, .extract (.tmp 8) 0, 74, "journal.go:177", #[⟨12, .data⟩], none⟩
abbrev tk14 : Oper := ⟨some 22, .extract (.tmp 8) 1, 3, "journal.go:177", #[⟨12, .data⟩, ⟨17, .gcOnly .lateStores⟩], none⟩
abbrev tk15 : Oper := ⟨some 23, .extract (.tmp 8) 2, 40, "journal.go:177", #[⟨12, .data⟩, ⟨18, .gcOnly .lateStores⟩], none⟩
abbrev tk16 : Oper := ⟨some 5, .alloc 74, 0, "journal.go:177", #[], none⟩
abbrev tk17 : Oper := ⟨none, .store 74 (.tmp 5) (.tmp 21), 0, "journal.go:177", #[⟨16, .data⟩, ⟨13, .data⟩, ⟨11, .chain⟩, ⟨0, .phase⟩, ⟨1, .phase⟩, ⟨2, .phase⟩, ⟨3, .phase⟩, ⟨4, .phase⟩, ⟨5, .phase⟩, ⟨6, .phase⟩, ⟨7, .phase⟩, ⟨8, .phase⟩, ⟨9, .phase⟩, ⟨10, .phase⟩, ⟨11, .phase⟩, ⟨12, .phase⟩, ⟨13, .phase⟩, ⟨14, .textOnly .lateStores⟩, ⟨15, .textOnly .lateStores⟩, ⟨16, .phase⟩], none⟩
abbrev tk18 : Oper := ⟨some 6, .assign (.tmp 22), 3, "journal.go:177", #[⟨14, .data⟩, ⟨17, .chain⟩, ⟨0, .phase⟩, ⟨1, .phase⟩, ⟨2, .phase⟩, ⟨3, .phase⟩, ⟨4, .phase⟩, ⟨5, .phase⟩, ⟨6, .phase⟩, ⟨7, .phase⟩, ⟨8, .phase⟩, ⟨9, .phase⟩, ⟨10, .phase⟩, ⟨11, .phase⟩, ⟨12, .phase⟩, ⟨13, .phase⟩, ⟨14, .phase⟩, ⟨15, .textOnly .lateStores⟩, ⟨16, .phase⟩, ⟨17, .phase⟩], none⟩
abbrev tk19 : Oper := ⟨some 7, .assign (.tmp 23), 40, "journal.go:177", #[⟨15, .data⟩, ⟨18, .chain⟩, ⟨0, .phase⟩, ⟨1, .phase⟩, ⟨2, .phase⟩, ⟨3, .phase⟩, ⟨4, .phase⟩, ⟨5, .phase⟩, ⟨6, .phase⟩, ⟨7, .phase⟩, ⟨8, .phase⟩, ⟨9, .phase⟩, ⟨10, .phase⟩, ⟨11, .phase⟩, ⟨12, .phase⟩, ⟨13, .phase⟩, ⟨14, .phase⟩, ⟨15, .phase⟩, ⟨16, .phase⟩, ⟨17, .phase⟩, ⟨18, .phase⟩], none⟩
abbrev tp0 : Oper := ⟨some 26, .move (.tmp 0), 32, "journal.go:181", #[], none⟩
abbrev tp1 : Oper := ⟨some 27, .move (.tmp 0), 32, "journal.go:181", #[], none⟩
abbrev tp2 : Oper := ⟨some 28, .nilCheck (.tmp 27), 0, "journal.go:181", #[⟨1, .data⟩], none⟩
abbrev tp3 : Oper := ⟨some 29, .fieldAddr 100 (.tmp 28) 4, 0, "journal.go:181", #[⟨2, .data⟩], none⟩
abbrev tp4 : Oper := ⟨some 30, .load 36 (.tmp 29), 36, "journal.go:181", #[⟨3, .data⟩], none⟩
abbrev tp5 : Oper := ⟨some 31, .fieldAddr 74 (.tmp 5) 3, 0, "journal.go:181", #[], none⟩
abbrev tp6 : Oper := ⟨some 32, .load 61 (.tmp 31), 61, "journal.go:181", #[⟨5, .data⟩], none⟩
abbrev tp7 : Oper := ⟨some 33, .buildSlice 36 1 #[(0, .tmp 32)], 36, "journal.go:181", #[⟨6, .data⟩], none⟩
abbrev tp8 : Oper := ⟨some 34, .call { callee := .builtin .append, args := #[.tmp 30, .tmp 33], argTypes := #[36, 36] }, 36, "journal.go:181", #[⟨4, .data⟩, ⟨7, .data⟩], none⟩
abbrev tp9 : Oper := ⟨some 35, .nilCheck (.tmp 26), 0, "journal.go:181", #[⟨0, .data⟩, ⟨0, .phase⟩, ⟨1, .phase⟩, ⟨2, .phase⟩, ⟨3, .phase⟩, ⟨4, .phase⟩, ⟨5, .phase⟩, ⟨6, .phase⟩, ⟨7, .phase⟩, ⟨8, .phase⟩], none⟩
abbrev tp10 : Oper := ⟨some 36, .fieldAddr 100 (.tmp 35) 4, 0, "journal.go:181", #[⟨9, .data⟩, ⟨0, .phase⟩, ⟨1, .phase⟩, ⟨2, .phase⟩, ⟨3, .phase⟩, ⟨4, .phase⟩, ⟨5, .phase⟩, ⟨6, .phase⟩, ⟨7, .phase⟩, ⟨8, .phase⟩], none⟩
abbrev tp11 : Oper := ⟨none, .store 36 (.tmp 36) (.tmp 34), 0, "journal.go:181", #[⟨10, .data⟩, ⟨8, .data⟩, ⟨8, .chain⟩, ⟨0, .phase⟩, ⟨1, .phase⟩, ⟨2, .phase⟩, ⟨3, .phase⟩, ⟨4, .phase⟩, ⟨5, .phase⟩, ⟨6, .phase⟩, ⟨7, .phase⟩, ⟨8, .phase⟩], none⟩
set_option maxRecDepth 100000 in
set_option maxHeartbeats 8000000 in
theorem jtake_no {F : List Nat} {w W : World} {p pb pd : Nat} {most : Int} {ts : List ByteArray} {d : Dk} {m : Int} {J : Jn} {v : Value} (h : Becomes F (JX p pb pd most ts d m J v) w W) (s : ByteArray) (hn : J.all.length ≤ 1000) (x1 x2 x3 k u q a x y z t own er : Int)
    (he : er ≠ 0) (hG : ∀ W, Becomes F (JX p pb pd most ts d m J v) w W → Calls Tryz.prog 109 #[.pointer (some ⟨pb, 0, none⟩), .string s, .int .i64 ((J.all.length : Int) + 1), .int .i64 J.last] W fun e w' => e = .returned (.tuple #[.agg #[.int .i64 x1, .int .i64 x2, .int .i64 x3, .int .i64 k, .int .i64 u, .int .i64 q, .int .i64 a, .int .i64 x, .int .i64 y, .int .i64 z, .int .i64 t], .int .i64 own, .int .i64 er]) ∧ Below W.heap.size W w') :
    Calls Tryz.prog 98 #[.pointer (some ⟨p, 0, none⟩), .string s] W fun e w' => e = .returned (.bool false) ∧ Becomes F (JX p pb pd most ts d m J v) w w' := by
  have HL := Lib.hid (fun W (h : Becomes F (JX p pb pd most ts d m J v) w W) W' (hb : Below W.heap.size W W') => JX.lay h hb)
  have HQ := Lib.hid (fun W (h : Becomes F (JX p pb pd most ts d m J v) w W) => jseq h (by omega))
  have HG := Lib.hid hG
  obtain ⟨k0, k1, k2, k3, k4, k5, k6⟩ := JX.cells h
  obtain ⟨ao, cap, rfl⟩ := JX.shape h
  clear hG
  have he' : (er != 0) = true := by simpa using he
  go_enter Tryz.func98, Tryz.ntmps98
  go_wp2
  refine region_held (S := fun Z8 => Becomes F (JX p pb pd most ts d m J (.slice ao J.all.length cap)) w Z8) 20 [false, false, false, false, false, false, false, false, false, false, false, false, false, false, false, false, false, false, false, false] rfl rfl (by kernel_rfl) fun W0 hW => ?_
  have hS0 := HL.out _ h _ (bdrew W)
  rw [← hW] at hS0
  clear hW h
  refine run_go [(0, tk0, (some 9)), (1, tk1, (some 10)), (2, tk2, (some 11)), (3, tk3, (some 12)), (4, tk4, (some 13)), (5, tk5, (some 14)), (7, tk7, (some 16)), (8, tk8, (some 17)), (9, tk9, (some 18)), (10, tk10, (some 19))] (by kernel_rfl) ?_
  iterate 10 (refine run_take ?_ rfl rfl (fun _ _ _ h => h) (Or.inl ⟨by rfl, ?_⟩) hS0 ?_; rotate_left; (· (intro w0 hy0; obtain ⟨k0, k1, k2, k3, k4, k5, k6⟩ := JX.cells hy0; (go_simp <;> with_reducible rfl))); simp only [Act.put, List.setIfInBounds_toArray, List.set_cons_zero, List.set_cons_succ])
  refine run_end ?_
  refine jtwo 6 16 (by kernel_rfl) ?_ ?_
  · refine jop_call 6 tk6 (some 15) (.int .i64 ((J.all.length : Int) + 1)) (fun Z9 => Becomes F (JX p pb pd most ts d m J (.slice ao J.all.length cap)) w Z9) 94 #[.pointer (some ⟨p, 0, none⟩)] ?_ rfl (by rfl) (jexec_seq (.tmp 14) rfl rfl) ((HQ.out _ hS0).mono fun e w' ⟨e1, e2⟩ => ⟨e1, e2 ▸ hS0⟩) (fun _ hX => hX) ?_
    · rfl
    intro W1 hS1
    simp only [Act.put, List.setIfInBounds_toArray, List.set_cons_zero, List.set_cons_succ]
    refine jtwo 11 16 (by kernel_rfl) ?_ ?_
    · refine jop_call 11 tk11 (some 20) (.tuple #[.agg #[.int .i64 x1, .int .i64 x2, .int .i64 x3, .int .i64 k, .int .i64 u, .int .i64 q, .int .i64 a, .int .i64 x, .int .i64 y, .int .i64 z, .int .i64 t], .int .i64 own, .int .i64 er]) (fun Z9 => Becomes F (JX p pb pd most ts d m J (.slice ao J.all.length cap)) w Z9) 109 #[.pointer (some ⟨pb, 0, none⟩), .string s, .int .i64 ((J.all.length : Int) + 1), .int .i64 J.last] ?_ rfl (by rfl) (jexec_get (.tmp 12) (.tmp 13) (.tmp 15) (.tmp 19) rfl rfl rfl rfl rfl) ((HG.out _ hS1).mono fun e w' ⟨e1, e2⟩ => ⟨e1, HL.out _ hS1 _ e2⟩) (fun _ hX => hX) ?_
      · rfl
      intro W2 hS2
      simp only [Act.put, List.setIfInBounds_toArray, List.set_cons_zero, List.set_cons_succ]
      refine run_go [(12, tk12, (some 8)), (13, tk13, (some 21)), (14, tk14, (some 22)), (15, tk15, (some 23))] (by kernel_rfl) ?_
      iterate 4 (refine run_take ?_ rfl rfl (fun _ _ _ h => h) (Or.inl ⟨by rfl, ?_⟩) hS2 ?_; rotate_left; (· (intro w0 hy0; obtain ⟨k0, k1, k2, k3, k4, k5, k6⟩ := JX.cells hy0; (go_simp <;> with_reducible rfl))); simp only [Act.put, List.setIfInBounds_toArray, List.set_cons_zero, List.set_cons_succ])
      refine run_end ?_
      have hS3 := HL.out _ hS2 _ (balloc W2 (.cells Z11 74))
      have hS4 := HL.out _ hS2 _ (balloc W2 (.cells #[.int .i64 x1, .int .i64 x2, .int .i64 x3, .int .i64 k, .int .i64 u, .int .i64 q, .int .i64 a, .int .i64 x, .int .i64 y, .int .i64 z, .int .i64 t] 74))
      refine held_one 16 tk16 (some 5) (.pointer (some ⟨W2.heap.size, 0, none⟩)) _ (by kernel_rfl) rfl rfl (by rfl) (jexec_alloc_rc rfl) hS3 ?_
      simp only [Act.put, List.setIfInBounds_toArray, List.set_cons_zero, List.set_cons_succ]
      refine held_void 17 tk17 _ (by kernel_rfl) rfl (by rfl) (jexec_store_rc (.tmp 5) (.tmp 21) rfl x1 x2 x3 k u q a x y z t rfl rfl) hS4 ?_
      simp only [Act.put, List.setIfInBounds_toArray, List.set_cons_zero, List.set_cons_succ]
      refine run_go [(18, tk18, (some 6)), (19, tk19, (some 7))] (by kernel_rfl) ?_
      iterate 2 (refine run_take ?_ rfl rfl (fun _ _ _ h => h) (Or.inl ⟨by rfl, ?_⟩) hS4 ?_; rotate_left; (· (intro w0 hy0; obtain ⟨k0, k1, k2, k3, k4, k5, k6⟩ := JX.cells hy0; (go_simp <;> with_reducible rfl))); simp only [Act.put, List.setIfInBounds_toArray, List.set_cons_zero, List.set_cons_succ])
      refine run_end ?_
      refine wpAnyH_done (by kernel_rfl) ?_ _
      have hY := hS2.hold (JX_good _ _ _ _ _ _ _ _ _) #[.int .i64 x1, .int .i64 x2, .int .i64 x3, .int .i64 k, .int .i64 u, .int .i64 q, .int .i64 a, .int .i64 x, .int .i64 y, .int .i64 z, .int .i64 t] 74
      clear hS0 hS1 hS2 hS3 hS4 HG HQ
      go_wp2
      go_ret
      exact ⟨rfl, hY.drop⟩
    · have hH := hS1.hold (JX_good _ _ _ _ _ _ _ _ _) Z11 74
      refine jop_one 16 tk16 (some 5) (.pointer (some ⟨W1.heap.size, 0, none⟩)) _ ?_ rfl (by rfl) (jexec_alloc_rc rfl) hH.drop ?_
      · rfl
      simp only [Act.put, List.setIfInBounds_toArray, List.set_cons_zero, List.set_cons_succ]
      refine held_call 11 tk11 (some 20) (.tuple #[.agg #[.int .i64 x1, .int .i64 x2, .int .i64 x3, .int .i64 k, .int .i64 u, .int .i64 q, .int .i64 a, .int .i64 x, .int .i64 y, .int .i64 z, .int .i64 t], .int .i64 own, .int .i64 er]) (fun Z9 => Becomes F ((ownA W1.heap.size Z11 74).star (JX p pb pd most ts d m J (.slice ao J.all.length cap))) w Z9) 109 #[.pointer (some ⟨pb, 0, none⟩), .string s, .int .i64 ((J.all.length : Int) + 1), .int .i64 J.last] (by kernel_rfl) rfl rfl (by rfl) (jexec_get (.tmp 12) (.tmp 13) (.tmp 15) (.tmp 19) rfl rfl rfl rfl rfl) ((HG.out _ hH.drop).mono fun e w' ⟨e1, e2⟩ => ⟨e1, Becomes.lay ((ownA_good _ _ _).star (JX_good _ _ _ _ _ _ _ _ _)) hH e2⟩) (fun _ hX => hX.drop) ?_
      intro W3 hT
      simp only [Act.put, List.setIfInBounds_toArray, List.set_cons_zero, List.set_cons_succ]
      have hS5 := hT.drop
      refine run_go [(12, tk12, (some 8)), (13, tk13, (some 21)), (14, tk14, (some 22)), (15, tk15, (some 23))] (by kernel_rfl) ?_
      iterate 4 (refine run_take ?_ rfl rfl (fun _ _ _ h => h) (Or.inl ⟨by rfl, ?_⟩) hS5 ?_; rotate_left; (· (intro w0 hy0; obtain ⟨k0, k1, k2, k3, k4, k5, k6⟩ := JX.cells hy0; (go_simp <;> with_reducible rfl))); simp only [Act.put, List.setIfInBounds_toArray, List.set_cons_zero, List.set_cons_succ])
      refine run_end ?_
      obtain ⟨e1, f1, g1⟩ := hT.own
      have hY := Becomes.poke_all (JX_good _ _ _ _ _ _ _ _ _) x1 x2 x3 k u q a x y z t hT
      have hS6 := hY.drop
      refine held_void 17 tk17 _ (by kernel_rfl) rfl (by rfl) (jexec_store_own (.tmp 5) (.tmp 21) rfl W1.heap.size e1 f1 g1 x1 x2 x3 k u q a x y z t rfl rfl) hS6 ?_
      simp only [Act.put, List.setIfInBounds_toArray, List.set_cons_zero, List.set_cons_succ]
      refine run_go [(18, tk18, (some 6)), (19, tk19, (some 7))] (by kernel_rfl) ?_
      iterate 2 (refine run_take ?_ rfl rfl (fun _ _ _ h => h) (Or.inl ⟨by rfl, ?_⟩) hS6 ?_; rotate_left; (· (intro w0 hy0; obtain ⟨k0, k1, k2, k3, k4, k5, k6⟩ := JX.cells hy0; (go_simp <;> with_reducible rfl))); simp only [Act.put, List.setIfInBounds_toArray, List.set_cons_zero, List.set_cons_succ])
      refine run_end ?_
      refine wpAnyH_done (by kernel_rfl) ?_ _
      clear hS0 hS1 hH hT hS5 hS6 HG HQ e1 f1 g1
      go_wp2
      go_ret
      exact ⟨rfl, hY.drop⟩
  · have hH := hS0.hold (JX_good _ _ _ _ _ _ _ _ _) Z11 74
    refine jop_one 16 tk16 (some 5) (.pointer (some ⟨W0.heap.size, 0, none⟩)) _ ?_ rfl (by rfl) (jexec_alloc_rc rfl) hH.drop ?_
    · rfl
    simp only [Act.put, List.setIfInBounds_toArray, List.set_cons_zero, List.set_cons_succ]
    refine held_call 6 tk6 (some 15) (.int .i64 ((J.all.length : Int) + 1)) (fun Z9 => Becomes F ((ownA W0.heap.size Z11 74).star (JX p pb pd most ts d m J (.slice ao J.all.length cap))) w Z9) 94 #[.pointer (some ⟨p, 0, none⟩)] (by kernel_rfl) rfl rfl (by rfl) (jexec_seq (.tmp 14) rfl rfl) ((HQ.out _ hH.drop).mono fun e w' ⟨e1, e2⟩ => ⟨e1, e2 ▸ hH⟩) (fun _ hX => hX.drop) ?_
    intro W1 hH1
    simp only [Act.put, List.setIfInBounds_toArray, List.set_cons_zero, List.set_cons_succ]
    refine held_call 11 tk11 (some 20) (.tuple #[.agg #[.int .i64 x1, .int .i64 x2, .int .i64 x3, .int .i64 k, .int .i64 u, .int .i64 q, .int .i64 a, .int .i64 x, .int .i64 y, .int .i64 z, .int .i64 t], .int .i64 own, .int .i64 er]) (fun Z9 => Becomes F ((ownA W0.heap.size Z11 74).star (JX p pb pd most ts d m J (.slice ao J.all.length cap))) w Z9) 109 #[.pointer (some ⟨pb, 0, none⟩), .string s, .int .i64 ((J.all.length : Int) + 1), .int .i64 J.last] (by kernel_rfl) rfl rfl (by rfl) (jexec_get (.tmp 12) (.tmp 13) (.tmp 15) (.tmp 19) rfl rfl rfl rfl rfl) ((HG.out _ hH1.drop).mono fun e w' ⟨e1, e2⟩ => ⟨e1, Becomes.lay ((ownA_good _ _ _).star (JX_good _ _ _ _ _ _ _ _ _)) hH1 e2⟩) (fun _ hX => hX.drop) ?_
    intro W3 hT
    simp only [Act.put, List.setIfInBounds_toArray, List.set_cons_zero, List.set_cons_succ]
    have hS5 := hT.drop
    refine run_go [(12, tk12, (some 8)), (13, tk13, (some 21)), (14, tk14, (some 22)), (15, tk15, (some 23))] (by kernel_rfl) ?_
    iterate 4 (refine run_take ?_ rfl rfl (fun _ _ _ h => h) (Or.inl ⟨by rfl, ?_⟩) hS5 ?_; rotate_left; (· (intro w0 hy0; obtain ⟨k0, k1, k2, k3, k4, k5, k6⟩ := JX.cells hy0; (go_simp <;> with_reducible rfl))); simp only [Act.put, List.setIfInBounds_toArray, List.set_cons_zero, List.set_cons_succ])
    refine run_end ?_
    obtain ⟨e1, f1, g1⟩ := hT.own
    have hY := Becomes.poke_all (JX_good _ _ _ _ _ _ _ _ _) x1 x2 x3 k u q a x y z t hT
    have hS6 := hY.drop
    refine held_void 17 tk17 _ (by kernel_rfl) rfl (by rfl) (jexec_store_own (.tmp 5) (.tmp 21) rfl W0.heap.size e1 f1 g1 x1 x2 x3 k u q a x y z t rfl rfl) hS6 ?_
    simp only [Act.put, List.setIfInBounds_toArray, List.set_cons_zero, List.set_cons_succ]
    refine run_go [(18, tk18, (some 6)), (19, tk19, (some 7))] (by kernel_rfl) ?_
    iterate 2 (refine run_take ?_ rfl rfl (fun _ _ _ h => h) (Or.inl ⟨by rfl, ?_⟩) hS6 ?_; rotate_left; (· (intro w0 hy0; obtain ⟨k0, k1, k2, k3, k4, k5, k6⟩ := JX.cells hy0; (go_simp <;> with_reducible rfl))); simp only [Act.put, List.setIfInBounds_toArray, List.set_cons_zero, List.set_cons_succ])
    refine run_end ?_
    refine wpAnyH_done (by kernel_rfl) ?_ _
    clear hS0 hH hH1 hT hS5 hS6 HG HQ e1 f1 g1
    go_wp2
    go_ret
    exact ⟨rfl, hY.drop⟩
set_option maxRecDepth 100000 in
set_option maxHeartbeats 8000000 in
theorem jtake_yes {F : List Nat} {w W : World} {p pb pd : Nat} {most : Int} {ts : List ByteArray} {d : Dk} {m : Int} {J : Jn} {v : Value} (h : Becomes F (JX p pb pd most ts d m J v) w W) (s : ByteArray) (hn : J.all.length ≤ 1000) (x1 x2 x3 k u q a x y z t own er : Int)
    (he : er = 0) (hG : ∀ W, Becomes F (JX p pb pd most ts d m J v) w W → Calls Tryz.prog 109 #[.pointer (some ⟨pb, 0, none⟩), .string s, .int .i64 ((J.all.length : Int) + 1), .int .i64 J.last] W fun e w' => e = .returned (.tuple #[.agg #[.int .i64 x1, .int .i64 x2, .int .i64 x3, .int .i64 k, .int .i64 u, .int .i64 q, .int .i64 a, .int .i64 x, .int .i64 y, .int .i64 z, .int .i64 t], .int .i64 own, .int .i64 er]) ∧ Below W.heap.size W w') :
    Calls Tryz.prog 98 #[.pointer (some ⟨p, 0, none⟩), .string s] W fun e w' => e = .returned (.bool true) ∧ Becomes F (JA p pb pd most ts d m ⟨J.boot, own, J.all ++ [(⟨k, u, q, a, x, y, z, t⟩ : Ev)], J.over⟩) w w' := by
  have HL := Lib.hid (fun W (h : Becomes F (JX p pb pd most ts d m J v) w W) W' (hb : Below W.heap.size W W') => JX.lay h hb)
  have HQ := Lib.hid (fun W (h : Becomes F (JX p pb pd most ts d m J v) w W) => jseq h (by omega))
  have HG := Lib.hid hG
  obtain ⟨k0, k1, k2, k3, k4, k5, k6⟩ := JX.cells h
  obtain ⟨ao, cap, rfl⟩ := JX.shape h
  clear hG
  subst he
  go_enter Tryz.func98, Tryz.ntmps98
  go_wp2
  refine region_held (S := fun Z8 => Becomes F (JX p pb pd most ts d m J (.slice ao J.all.length cap)) w Z8) 20 [false, false, false, false, false, false, false, false, false, false, false, false, false, false, false, false, false, false, false, false] rfl rfl (by kernel_rfl) fun W0 hW => ?_
  have hS0 := HL.out _ h _ (bdrew W)
  rw [← hW] at hS0
  clear hW h
  refine run_go [(0, tk0, (some 9)), (1, tk1, (some 10)), (2, tk2, (some 11)), (3, tk3, (some 12)), (4, tk4, (some 13)), (5, tk5, (some 14)), (7, tk7, (some 16)), (8, tk8, (some 17)), (9, tk9, (some 18)), (10, tk10, (some 19))] (by kernel_rfl) ?_
  iterate 10 (refine run_take ?_ rfl rfl (fun _ _ _ h => h) (Or.inl ⟨by rfl, ?_⟩) hS0 ?_; rotate_left; (· (intro w0 hy0; obtain ⟨k0, k1, k2, k3, k4, k5, k6⟩ := JX.cells hy0; (go_simp <;> with_reducible rfl))); simp only [Act.put, List.setIfInBounds_toArray, List.set_cons_zero, List.set_cons_succ])
  refine run_end ?_
  refine jtwo 6 16 (by kernel_rfl) ?_ ?_
  · refine jop_call 6 tk6 (some 15) (.int .i64 ((J.all.length : Int) + 1)) (fun Z9 => Becomes F (JX p pb pd most ts d m J (.slice ao J.all.length cap)) w Z9) 94 #[.pointer (some ⟨p, 0, none⟩)] ?_ rfl (by rfl) (jexec_seq (.tmp 14) rfl rfl) ((HQ.out _ hS0).mono fun e w' ⟨e1, e2⟩ => ⟨e1, e2 ▸ hS0⟩) (fun _ hX => hX) ?_
    · rfl
    intro W1 hS1
    simp only [Act.put, List.setIfInBounds_toArray, List.set_cons_zero, List.set_cons_succ]
    refine jtwo 11 16 (by kernel_rfl) ?_ ?_
    · refine jop_call 11 tk11 (some 20) (.tuple #[.agg #[.int .i64 x1, .int .i64 x2, .int .i64 x3, .int .i64 k, .int .i64 u, .int .i64 q, .int .i64 a, .int .i64 x, .int .i64 y, .int .i64 z, .int .i64 t], .int .i64 own, .int .i64 0]) (fun Z9 => Becomes F (JX p pb pd most ts d m J (.slice ao J.all.length cap)) w Z9) 109 #[.pointer (some ⟨pb, 0, none⟩), .string s, .int .i64 ((J.all.length : Int) + 1), .int .i64 J.last] ?_ rfl (by rfl) (jexec_get (.tmp 12) (.tmp 13) (.tmp 15) (.tmp 19) rfl rfl rfl rfl rfl) ((HG.out _ hS1).mono fun e w' ⟨e1, e2⟩ => ⟨e1, HL.out _ hS1 _ e2⟩) (fun _ hX => hX) ?_
      · rfl
      intro W2 hS2
      simp only [Act.put, List.setIfInBounds_toArray, List.set_cons_zero, List.set_cons_succ]
      refine run_go [(12, tk12, (some 8)), (13, tk13, (some 21)), (14, tk14, (some 22)), (15, tk15, (some 23))] (by kernel_rfl) ?_
      iterate 4 (refine run_take ?_ rfl rfl (fun _ _ _ h => h) (Or.inl ⟨by rfl, ?_⟩) hS2 ?_; rotate_left; (· (intro w0 hy0; obtain ⟨k0, k1, k2, k3, k4, k5, k6⟩ := JX.cells hy0; (go_simp <;> with_reducible rfl))); simp only [Act.put, List.setIfInBounds_toArray, List.set_cons_zero, List.set_cons_succ])
      refine run_end ?_
      have hS3 := HL.out _ hS2 _ (balloc W2 (.cells Z11 74))
      have hS4 := HL.out _ hS2 _ (balloc W2 (.cells #[.int .i64 x1, .int .i64 x2, .int .i64 x3, .int .i64 k, .int .i64 u, .int .i64 q, .int .i64 a, .int .i64 x, .int .i64 y, .int .i64 z, .int .i64 t] 74))
      refine held_one 16 tk16 (some 5) (.pointer (some ⟨W2.heap.size, 0, none⟩)) _ (by kernel_rfl) rfl rfl (by rfl) (jexec_alloc_rc rfl) hS3 ?_
      simp only [Act.put, List.setIfInBounds_toArray, List.set_cons_zero, List.set_cons_succ]
      refine held_void 17 tk17 _ (by kernel_rfl) rfl (by rfl) (jexec_store_rc (.tmp 5) (.tmp 21) rfl x1 x2 x3 k u q a x y z t rfl rfl) hS4 ?_
      simp only [Act.put, List.setIfInBounds_toArray, List.set_cons_zero, List.set_cons_succ]
      refine run_go [(18, tk18, (some 6)), (19, tk19, (some 7))] (by kernel_rfl) ?_
      iterate 2 (refine run_take ?_ rfl rfl (fun _ _ _ h => h) (Or.inl ⟨by rfl, ?_⟩) hS4 ?_; rotate_left; (· (intro w0 hy0; obtain ⟨k0, k1, k2, k3, k4, k5, k6⟩ := JX.cells hy0; (go_simp <;> with_reducible rfl))); simp only [Act.put, List.setIfInBounds_toArray, List.set_cons_zero, List.set_cons_succ])
      refine run_end ?_
      refine wpAnyH_done (by kernel_rfl) ?_ _
      have hY := hS2.hold (JX_good _ _ _ _ _ _ _ _ _) #[.int .i64 x1, .int .i64 x2, .int .i64 x3, .int .i64 k, .int .i64 u, .int .i64 q, .int .i64 a, .int .i64 x, .int .i64 y, .int .i64 z, .int .i64 t] 74
      clear hS0 hS1 hS2 hS3 hS4 HG HQ
      go_wp2
      refine region_held (S := fun Z8 => ∀ i, Z8.cell? ⟨W2.heap.size, i, none⟩ = (#[.int .i64 x1, .int .i64 x2, .int .i64 x3, .int .i64 k, .int .i64 u, .int .i64 q, .int .i64 a, .int .i64 x, .int .i64 y, .int .i64 z, .int .i64 t] : Array Value)[i]?) 12 [false, false, false, false, false, false, false, false, false, false, false, false] rfl rfl (by kernel_rfl) fun V0 hV => ?_
      have hV0 := Becomes.lay ((ownA_good _ _ _).star (JX_good _ _ _ _ _ _ _ _ _)) hY (bdrew _)
      rw [← hV] at hV0
      have hC0 := hV0.own.1
      have k4 := (JX.cells hV0.drop).2.2.2.2.1
      clear hV hY
      refine run_go [(0, tp0, (some 26)), (1, tp1, (some 27)), (2, tp2, (some 28)), (3, tp3, (some 29)), (5, tp5, (some 31)), (6, tp6, (some 32))] (by kernel_rfl) ?_
      iterate 6 (refine run_take ?_ rfl rfl (fun _ _ _ h => h) (Or.inl ⟨by rfl, ?_⟩) hC0 ?_; rotate_left; (· (intro w0 hy0; have e3 := hy0 3; have e4 := hy0 4; have e5 := hy0 5; have e6 := hy0 6; have e7 := hy0 7; have e8 := hy0 8; have e9 := hy0 9; have e10 := hy0 10; (go_simp <;> with_reducible rfl))); simp only [Act.put, List.setIfInBounds_toArray, List.set_cons_zero, List.set_cons_succ])
      refine run_end ?_
      have hV1 := hV0.lay ((ownA_good _ _ _).star (JX_good _ _ _ _ _ _ _ _ _)) (balloc V0 (.cells (Ev.cs (⟨k, u, q, a, x, y, z, t⟩ : Ev)).toArray TE))
      have hC1 := hV1.own.1
      have k41 := (JX.cells hV1.drop).2.2.2.2.1
      have hE1 := EsAt.new V0 (⟨k, u, q, a, x, y, z, t⟩ : Ev)
      obtain ⟨v', V2, hr, hrow, hgr, hnil, hlo⟩ := run_app_ev (es := [(⟨k, u, q, a, x, y, z, t⟩ : Ev)]) tp8.type J.all (JY.row hV1.drop) (some ⟨V0.heap.size, 0, none⟩) 1 1 rfl (by omega) (.inr ⟨_, _, rfl, hE1⟩)
      have hV2 := JY.appended1 (ownA_good _ _ _) hV1 (n := 1) (es := [(⟨k, u, q, a, x, y, z, t⟩ : Ev)]) rfl hrow hgr (hlo.imp id fun e => ⟨_, Nat.le_refl _, e⟩)
      have hC2 := hV2.own.1
      obtain ⟨a2, c2, hv2⟩ := rowE_shape hrow
      subst hv2
      have hst := store_es (w := V2) p 4 a2 (J.all.length + 1) c2 (hV2.drop.own.1 4) (hV2.drop.own.2.1 4)
      have hV3 := JY.set1 (ownA_good _ _ _) hV2 4 (.slice a2 (J.all.length + 1) c2)
      have hC3 := hV3.own.1
      have j5 := hV3.drop.own.1 5
      have g5 := hV3.drop.own.2.1 5
      have hV4 := JY.set hV3.drop 5 (.int .i64 own)
      clear hV0 hV1 hV2 hrow hgr hlo hnil hE1
      refine jtwo 4 7 (by kernel_rfl) ?_ ?_
      · refine jop_one 4 tp4 (some 30) (.slice ao J.all.length cap) V0 ?_ rfl (by rfl) (jexec_load_es (.tmp 29) rfl p 4 rfl k4) hC0 ?_
        · rfl
        simp only [Act.put, List.setIfInBounds_toArray, List.set_cons_zero, List.set_cons_succ]
        refine held_one 7 tp7 (some 33) (.slice (some ⟨V0.heap.size, 0, none⟩) 1 1) _ (by kernel_rfl) rfl rfl (by rfl) (jexec_slice_ev (.tmp 32) rfl (⟨k, u, q, a, x, y, z, t⟩ : Ev) rfl) hC1 ?_
        simp only [Act.put, List.setIfInBounds_toArray, List.set_cons_zero, List.set_cons_succ]
        refine held_one 8 tp8 (some 34) (.slice a2 (J.all.length + 1) c2) V2 (by kernel_rfl) rfl rfl (by rfl) (exec_append (.tmp 30) (.tmp 33) 36 rfl rfl rfl hr) hC2 ?_
        simp only [Act.put, List.setIfInBounds_toArray, List.set_cons_zero, List.set_cons_succ]
        refine run_go [(9, tp9, (some 35)), (10, tp10, (some 36))] (by kernel_rfl) ?_
        iterate 2 (refine run_take ?_ rfl rfl (fun _ _ _ h => h) (Or.inl ⟨by rfl, ?_⟩) hC2 ?_; rotate_left; (· (intro w0 hy0; have e3 := hy0 3; have e4 := hy0 4; have e5 := hy0 5; have e6 := hy0 6; have e7 := hy0 7; have e8 := hy0 8; have e9 := hy0 9; have e10 := hy0 10; (go_simp <;> with_reducible rfl))); simp only [Act.put, List.setIfInBounds_toArray, List.set_cons_zero, List.set_cons_succ])
        refine run_end ?_
        refine held_void 11 tp11 _ (by kernel_rfl) rfl (by rfl) (exec_store 36 (.tmp 36) (.tmp 34) rfl rfl rfl hst) hC3 ?_
        simp only [Act.put, List.setIfInBounds_toArray, List.set_cons_zero, List.set_cons_succ]
        refine wpAnyH_done (by kernel_rfl) ?_ _
        clear hC0 hC1 hC2 hC3 k4 k41 hst hr
        go_wp2
        go_ret
        refine ⟨rfl, Becomes.hidv (v := .slice a2 (J.all.length + 1) c2) ?_ (by simp)⟩
        exact hV4
      · refine jop_one 7 tp7 (some 33) (.slice (some ⟨V0.heap.size, 0, none⟩) 1 1) _ ?_ rfl (by rfl) (jexec_slice_ev (.tmp 32) rfl (⟨k, u, q, a, x, y, z, t⟩ : Ev) rfl) hC1 ?_
        · rfl
        simp only [Act.put, List.setIfInBounds_toArray, List.set_cons_zero, List.set_cons_succ]
        refine held_one 4 tp4 (some 30) (.slice ao J.all.length cap) _ (by kernel_rfl) rfl rfl (by rfl) (jexec_load_es (.tmp 29) rfl p 4 rfl k41) hC1 ?_
        simp only [Act.put, List.setIfInBounds_toArray, List.set_cons_zero, List.set_cons_succ]
        refine held_one 8 tp8 (some 34) (.slice a2 (J.all.length + 1) c2) V2 (by kernel_rfl) rfl rfl (by rfl) (exec_append (.tmp 30) (.tmp 33) 36 rfl rfl rfl hr) hC2 ?_
        simp only [Act.put, List.setIfInBounds_toArray, List.set_cons_zero, List.set_cons_succ]
        refine run_go [(9, tp9, (some 35)), (10, tp10, (some 36))] (by kernel_rfl) ?_
        iterate 2 (refine run_take ?_ rfl rfl (fun _ _ _ h => h) (Or.inl ⟨by rfl, ?_⟩) hC2 ?_; rotate_left; (· (intro w0 hy0; have e3 := hy0 3; have e4 := hy0 4; have e5 := hy0 5; have e6 := hy0 6; have e7 := hy0 7; have e8 := hy0 8; have e9 := hy0 9; have e10 := hy0 10; (go_simp <;> with_reducible rfl))); simp only [Act.put, List.setIfInBounds_toArray, List.set_cons_zero, List.set_cons_succ])
        refine run_end ?_
        refine held_void 11 tp11 _ (by kernel_rfl) rfl (by rfl) (exec_store 36 (.tmp 36) (.tmp 34) rfl rfl rfl hst) hC3 ?_
        simp only [Act.put, List.setIfInBounds_toArray, List.set_cons_zero, List.set_cons_succ]
        refine wpAnyH_done (by kernel_rfl) ?_ _
        clear hC0 hC1 hC2 hC3 k4 k41 hst hr
        go_wp2
        go_ret
        refine ⟨rfl, Becomes.hidv (v := .slice a2 (J.all.length + 1) c2) ?_ (by simp)⟩
        exact hV4
    · have hH := hS1.hold (JX_good _ _ _ _ _ _ _ _ _) Z11 74
      refine jop_one 16 tk16 (some 5) (.pointer (some ⟨W1.heap.size, 0, none⟩)) _ ?_ rfl (by rfl) (jexec_alloc_rc rfl) hH.drop ?_
      · rfl
      simp only [Act.put, List.setIfInBounds_toArray, List.set_cons_zero, List.set_cons_succ]
      refine held_call 11 tk11 (some 20) (.tuple #[.agg #[.int .i64 x1, .int .i64 x2, .int .i64 x3, .int .i64 k, .int .i64 u, .int .i64 q, .int .i64 a, .int .i64 x, .int .i64 y, .int .i64 z, .int .i64 t], .int .i64 own, .int .i64 0]) (fun Z9 => Becomes F ((ownA W1.heap.size Z11 74).star (JX p pb pd most ts d m J (.slice ao J.all.length cap))) w Z9) 109 #[.pointer (some ⟨pb, 0, none⟩), .string s, .int .i64 ((J.all.length : Int) + 1), .int .i64 J.last] (by kernel_rfl) rfl rfl (by rfl) (jexec_get (.tmp 12) (.tmp 13) (.tmp 15) (.tmp 19) rfl rfl rfl rfl rfl) ((HG.out _ hH.drop).mono fun e w' ⟨e1, e2⟩ => ⟨e1, Becomes.lay ((ownA_good _ _ _).star (JX_good _ _ _ _ _ _ _ _ _)) hH e2⟩) (fun _ hX => hX.drop) ?_
      intro W3 hT
      simp only [Act.put, List.setIfInBounds_toArray, List.set_cons_zero, List.set_cons_succ]
      have hS5 := hT.drop
      refine run_go [(12, tk12, (some 8)), (13, tk13, (some 21)), (14, tk14, (some 22)), (15, tk15, (some 23))] (by kernel_rfl) ?_
      iterate 4 (refine run_take ?_ rfl rfl (fun _ _ _ h => h) (Or.inl ⟨by rfl, ?_⟩) hS5 ?_; rotate_left; (· (intro w0 hy0; obtain ⟨k0, k1, k2, k3, k4, k5, k6⟩ := JX.cells hy0; (go_simp <;> with_reducible rfl))); simp only [Act.put, List.setIfInBounds_toArray, List.set_cons_zero, List.set_cons_succ])
      refine run_end ?_
      obtain ⟨e1, f1, g1⟩ := hT.own
      have hY := Becomes.poke_all (JX_good _ _ _ _ _ _ _ _ _) x1 x2 x3 k u q a x y z t hT
      have hS6 := hY.drop
      refine held_void 17 tk17 _ (by kernel_rfl) rfl (by rfl) (jexec_store_own (.tmp 5) (.tmp 21) rfl W1.heap.size e1 f1 g1 x1 x2 x3 k u q a x y z t rfl rfl) hS6 ?_
      simp only [Act.put, List.setIfInBounds_toArray, List.set_cons_zero, List.set_cons_succ]
      refine run_go [(18, tk18, (some 6)), (19, tk19, (some 7))] (by kernel_rfl) ?_
      iterate 2 (refine run_take ?_ rfl rfl (fun _ _ _ h => h) (Or.inl ⟨by rfl, ?_⟩) hS6 ?_; rotate_left; (· (intro w0 hy0; obtain ⟨k0, k1, k2, k3, k4, k5, k6⟩ := JX.cells hy0; (go_simp <;> with_reducible rfl))); simp only [Act.put, List.setIfInBounds_toArray, List.set_cons_zero, List.set_cons_succ])
      refine run_end ?_
      refine wpAnyH_done (by kernel_rfl) ?_ _
      clear hS0 hS1 hH hT hS5 hS6 HG HQ e1 f1 g1
      go_wp2
      refine region_held (S := fun Z8 => ∀ i, Z8.cell? ⟨W1.heap.size, i, none⟩ = (#[.int .i64 x1, .int .i64 x2, .int .i64 x3, .int .i64 k, .int .i64 u, .int .i64 q, .int .i64 a, .int .i64 x, .int .i64 y, .int .i64 z, .int .i64 t] : Array Value)[i]?) 12 [false, false, false, false, false, false, false, false, false, false, false, false] rfl rfl (by kernel_rfl) fun V0 hV => ?_
      have hV0 := Becomes.lay ((ownA_good _ _ _).star (JX_good _ _ _ _ _ _ _ _ _)) hY (bdrew _)
      rw [← hV] at hV0
      have hC0 := hV0.own.1
      have k4 := (JX.cells hV0.drop).2.2.2.2.1
      clear hV hY
      refine run_go [(0, tp0, (some 26)), (1, tp1, (some 27)), (2, tp2, (some 28)), (3, tp3, (some 29)), (5, tp5, (some 31)), (6, tp6, (some 32))] (by kernel_rfl) ?_
      iterate 6 (refine run_take ?_ rfl rfl (fun _ _ _ h => h) (Or.inl ⟨by rfl, ?_⟩) hC0 ?_; rotate_left; (· (intro w0 hy0; have e3 := hy0 3; have e4 := hy0 4; have e5 := hy0 5; have e6 := hy0 6; have e7 := hy0 7; have e8 := hy0 8; have e9 := hy0 9; have e10 := hy0 10; (go_simp <;> with_reducible rfl))); simp only [Act.put, List.setIfInBounds_toArray, List.set_cons_zero, List.set_cons_succ])
      refine run_end ?_
      have hV1 := hV0.lay ((ownA_good _ _ _).star (JX_good _ _ _ _ _ _ _ _ _)) (balloc V0 (.cells (Ev.cs (⟨k, u, q, a, x, y, z, t⟩ : Ev)).toArray TE))
      have hC1 := hV1.own.1
      have k41 := (JX.cells hV1.drop).2.2.2.2.1
      have hE1 := EsAt.new V0 (⟨k, u, q, a, x, y, z, t⟩ : Ev)
      obtain ⟨v', V2, hr, hrow, hgr, hnil, hlo⟩ := run_app_ev (es := [(⟨k, u, q, a, x, y, z, t⟩ : Ev)]) tp8.type J.all (JY.row hV1.drop) (some ⟨V0.heap.size, 0, none⟩) 1 1 rfl (by omega) (.inr ⟨_, _, rfl, hE1⟩)
      have hV2 := JY.appended1 (ownA_good _ _ _) hV1 (n := 1) (es := [(⟨k, u, q, a, x, y, z, t⟩ : Ev)]) rfl hrow hgr (hlo.imp id fun e => ⟨_, Nat.le_refl _, e⟩)
      have hC2 := hV2.own.1
      obtain ⟨a2, c2, hv2⟩ := rowE_shape hrow
      subst hv2
      have hst := store_es (w := V2) p 4 a2 (J.all.length + 1) c2 (hV2.drop.own.1 4) (hV2.drop.own.2.1 4)
      have hV3 := JY.set1 (ownA_good _ _ _) hV2 4 (.slice a2 (J.all.length + 1) c2)
      have hC3 := hV3.own.1
      have j5 := hV3.drop.own.1 5
      have g5 := hV3.drop.own.2.1 5
      have hV4 := JY.set hV3.drop 5 (.int .i64 own)
      clear hV0 hV1 hV2 hrow hgr hlo hnil hE1
      refine jtwo 4 7 (by kernel_rfl) ?_ ?_
      · refine jop_one 4 tp4 (some 30) (.slice ao J.all.length cap) V0 ?_ rfl (by rfl) (jexec_load_es (.tmp 29) rfl p 4 rfl k4) hC0 ?_
        · rfl
        simp only [Act.put, List.setIfInBounds_toArray, List.set_cons_zero, List.set_cons_succ]
        refine held_one 7 tp7 (some 33) (.slice (some ⟨V0.heap.size, 0, none⟩) 1 1) _ (by kernel_rfl) rfl rfl (by rfl) (jexec_slice_ev (.tmp 32) rfl (⟨k, u, q, a, x, y, z, t⟩ : Ev) rfl) hC1 ?_
        simp only [Act.put, List.setIfInBounds_toArray, List.set_cons_zero, List.set_cons_succ]
        refine held_one 8 tp8 (some 34) (.slice a2 (J.all.length + 1) c2) V2 (by kernel_rfl) rfl rfl (by rfl) (exec_append (.tmp 30) (.tmp 33) 36 rfl rfl rfl hr) hC2 ?_
        simp only [Act.put, List.setIfInBounds_toArray, List.set_cons_zero, List.set_cons_succ]
        refine run_go [(9, tp9, (some 35)), (10, tp10, (some 36))] (by kernel_rfl) ?_
        iterate 2 (refine run_take ?_ rfl rfl (fun _ _ _ h => h) (Or.inl ⟨by rfl, ?_⟩) hC2 ?_; rotate_left; (· (intro w0 hy0; have e3 := hy0 3; have e4 := hy0 4; have e5 := hy0 5; have e6 := hy0 6; have e7 := hy0 7; have e8 := hy0 8; have e9 := hy0 9; have e10 := hy0 10; (go_simp <;> with_reducible rfl))); simp only [Act.put, List.setIfInBounds_toArray, List.set_cons_zero, List.set_cons_succ])
        refine run_end ?_
        refine held_void 11 tp11 _ (by kernel_rfl) rfl (by rfl) (exec_store 36 (.tmp 36) (.tmp 34) rfl rfl rfl hst) hC3 ?_
        simp only [Act.put, List.setIfInBounds_toArray, List.set_cons_zero, List.set_cons_succ]
        refine wpAnyH_done (by kernel_rfl) ?_ _
        clear hC0 hC1 hC2 hC3 k4 k41 hst hr
        go_wp2
        go_ret
        refine ⟨rfl, Becomes.hidv (v := .slice a2 (J.all.length + 1) c2) ?_ (by simp)⟩
        exact hV4
      · refine jop_one 7 tp7 (some 33) (.slice (some ⟨V0.heap.size, 0, none⟩) 1 1) _ ?_ rfl (by rfl) (jexec_slice_ev (.tmp 32) rfl (⟨k, u, q, a, x, y, z, t⟩ : Ev) rfl) hC1 ?_
        · rfl
        simp only [Act.put, List.setIfInBounds_toArray, List.set_cons_zero, List.set_cons_succ]
        refine held_one 4 tp4 (some 30) (.slice ao J.all.length cap) _ (by kernel_rfl) rfl rfl (by rfl) (jexec_load_es (.tmp 29) rfl p 4 rfl k41) hC1 ?_
        simp only [Act.put, List.setIfInBounds_toArray, List.set_cons_zero, List.set_cons_succ]
        refine held_one 8 tp8 (some 34) (.slice a2 (J.all.length + 1) c2) V2 (by kernel_rfl) rfl rfl (by rfl) (exec_append (.tmp 30) (.tmp 33) 36 rfl rfl rfl hr) hC2 ?_
        simp only [Act.put, List.setIfInBounds_toArray, List.set_cons_zero, List.set_cons_succ]
        refine run_go [(9, tp9, (some 35)), (10, tp10, (some 36))] (by kernel_rfl) ?_
        iterate 2 (refine run_take ?_ rfl rfl (fun _ _ _ h => h) (Or.inl ⟨by rfl, ?_⟩) hC2 ?_; rotate_left; (· (intro w0 hy0; have e3 := hy0 3; have e4 := hy0 4; have e5 := hy0 5; have e6 := hy0 6; have e7 := hy0 7; have e8 := hy0 8; have e9 := hy0 9; have e10 := hy0 10; (go_simp <;> with_reducible rfl))); simp only [Act.put, List.setIfInBounds_toArray, List.set_cons_zero, List.set_cons_succ])
        refine run_end ?_
        refine held_void 11 tp11 _ (by kernel_rfl) rfl (by rfl) (exec_store 36 (.tmp 36) (.tmp 34) rfl rfl rfl hst) hC3 ?_
        simp only [Act.put, List.setIfInBounds_toArray, List.set_cons_zero, List.set_cons_succ]
        refine wpAnyH_done (by kernel_rfl) ?_ _
        clear hC0 hC1 hC2 hC3 k4 k41 hst hr
        go_wp2
        go_ret
        refine ⟨rfl, Becomes.hidv (v := .slice a2 (J.all.length + 1) c2) ?_ (by simp)⟩
        exact hV4
  · have hH := hS0.hold (JX_good _ _ _ _ _ _ _ _ _) Z11 74
    refine jop_one 16 tk16 (some 5) (.pointer (some ⟨W0.heap.size, 0, none⟩)) _ ?_ rfl (by rfl) (jexec_alloc_rc rfl) hH.drop ?_
    · rfl
    simp only [Act.put, List.setIfInBounds_toArray, List.set_cons_zero, List.set_cons_succ]
    refine held_call 6 tk6 (some 15) (.int .i64 ((J.all.length : Int) + 1)) (fun Z9 => Becomes F ((ownA W0.heap.size Z11 74).star (JX p pb pd most ts d m J (.slice ao J.all.length cap))) w Z9) 94 #[.pointer (some ⟨p, 0, none⟩)] (by kernel_rfl) rfl rfl (by rfl) (jexec_seq (.tmp 14) rfl rfl) ((HQ.out _ hH.drop).mono fun e w' ⟨e1, e2⟩ => ⟨e1, e2 ▸ hH⟩) (fun _ hX => hX.drop) ?_
    intro W1 hH1
    simp only [Act.put, List.setIfInBounds_toArray, List.set_cons_zero, List.set_cons_succ]
    refine held_call 11 tk11 (some 20) (.tuple #[.agg #[.int .i64 x1, .int .i64 x2, .int .i64 x3, .int .i64 k, .int .i64 u, .int .i64 q, .int .i64 a, .int .i64 x, .int .i64 y, .int .i64 z, .int .i64 t], .int .i64 own, .int .i64 0]) (fun Z9 => Becomes F ((ownA W0.heap.size Z11 74).star (JX p pb pd most ts d m J (.slice ao J.all.length cap))) w Z9) 109 #[.pointer (some ⟨pb, 0, none⟩), .string s, .int .i64 ((J.all.length : Int) + 1), .int .i64 J.last] (by kernel_rfl) rfl rfl (by rfl) (jexec_get (.tmp 12) (.tmp 13) (.tmp 15) (.tmp 19) rfl rfl rfl rfl rfl) ((HG.out _ hH1.drop).mono fun e w' ⟨e1, e2⟩ => ⟨e1, Becomes.lay ((ownA_good _ _ _).star (JX_good _ _ _ _ _ _ _ _ _)) hH1 e2⟩) (fun _ hX => hX.drop) ?_
    intro W3 hT
    simp only [Act.put, List.setIfInBounds_toArray, List.set_cons_zero, List.set_cons_succ]
    have hS5 := hT.drop
    refine run_go [(12, tk12, (some 8)), (13, tk13, (some 21)), (14, tk14, (some 22)), (15, tk15, (some 23))] (by kernel_rfl) ?_
    iterate 4 (refine run_take ?_ rfl rfl (fun _ _ _ h => h) (Or.inl ⟨by rfl, ?_⟩) hS5 ?_; rotate_left; (· (intro w0 hy0; obtain ⟨k0, k1, k2, k3, k4, k5, k6⟩ := JX.cells hy0; (go_simp <;> with_reducible rfl))); simp only [Act.put, List.setIfInBounds_toArray, List.set_cons_zero, List.set_cons_succ])
    refine run_end ?_
    obtain ⟨e1, f1, g1⟩ := hT.own
    have hY := Becomes.poke_all (JX_good _ _ _ _ _ _ _ _ _) x1 x2 x3 k u q a x y z t hT
    have hS6 := hY.drop
    refine held_void 17 tk17 _ (by kernel_rfl) rfl (by rfl) (jexec_store_own (.tmp 5) (.tmp 21) rfl W0.heap.size e1 f1 g1 x1 x2 x3 k u q a x y z t rfl rfl) hS6 ?_
    simp only [Act.put, List.setIfInBounds_toArray, List.set_cons_zero, List.set_cons_succ]
    refine run_go [(18, tk18, (some 6)), (19, tk19, (some 7))] (by kernel_rfl) ?_
    iterate 2 (refine run_take ?_ rfl rfl (fun _ _ _ h => h) (Or.inl ⟨by rfl, ?_⟩) hS6 ?_; rotate_left; (· (intro w0 hy0; obtain ⟨k0, k1, k2, k3, k4, k5, k6⟩ := JX.cells hy0; (go_simp <;> with_reducible rfl))); simp only [Act.put, List.setIfInBounds_toArray, List.set_cons_zero, List.set_cons_succ])
    refine run_end ?_
    refine wpAnyH_done (by kernel_rfl) ?_ _
    clear hS0 hH hH1 hT hS5 hS6 HG HQ e1 f1 g1
    go_wp2
    refine region_held (S := fun Z8 => ∀ i, Z8.cell? ⟨W0.heap.size, i, none⟩ = (#[.int .i64 x1, .int .i64 x2, .int .i64 x3, .int .i64 k, .int .i64 u, .int .i64 q, .int .i64 a, .int .i64 x, .int .i64 y, .int .i64 z, .int .i64 t] : Array Value)[i]?) 12 [false, false, false, false, false, false, false, false, false, false, false, false] rfl rfl (by kernel_rfl) fun V0 hV => ?_
    have hV0 := Becomes.lay ((ownA_good _ _ _).star (JX_good _ _ _ _ _ _ _ _ _)) hY (bdrew _)
    rw [← hV] at hV0
    have hC0 := hV0.own.1
    have k4 := (JX.cells hV0.drop).2.2.2.2.1
    clear hV hY
    refine run_go [(0, tp0, (some 26)), (1, tp1, (some 27)), (2, tp2, (some 28)), (3, tp3, (some 29)), (5, tp5, (some 31)), (6, tp6, (some 32))] (by kernel_rfl) ?_
    iterate 6 (refine run_take ?_ rfl rfl (fun _ _ _ h => h) (Or.inl ⟨by rfl, ?_⟩) hC0 ?_; rotate_left; (· (intro w0 hy0; have e3 := hy0 3; have e4 := hy0 4; have e5 := hy0 5; have e6 := hy0 6; have e7 := hy0 7; have e8 := hy0 8; have e9 := hy0 9; have e10 := hy0 10; (go_simp <;> with_reducible rfl))); simp only [Act.put, List.setIfInBounds_toArray, List.set_cons_zero, List.set_cons_succ])
    refine run_end ?_
    have hV1 := hV0.lay ((ownA_good _ _ _).star (JX_good _ _ _ _ _ _ _ _ _)) (balloc V0 (.cells (Ev.cs (⟨k, u, q, a, x, y, z, t⟩ : Ev)).toArray TE))
    have hC1 := hV1.own.1
    have k41 := (JX.cells hV1.drop).2.2.2.2.1
    have hE1 := EsAt.new V0 (⟨k, u, q, a, x, y, z, t⟩ : Ev)
    obtain ⟨v', V2, hr, hrow, hgr, hnil, hlo⟩ := run_app_ev (es := [(⟨k, u, q, a, x, y, z, t⟩ : Ev)]) tp8.type J.all (JY.row hV1.drop) (some ⟨V0.heap.size, 0, none⟩) 1 1 rfl (by omega) (.inr ⟨_, _, rfl, hE1⟩)
    have hV2 := JY.appended1 (ownA_good _ _ _) hV1 (n := 1) (es := [(⟨k, u, q, a, x, y, z, t⟩ : Ev)]) rfl hrow hgr (hlo.imp id fun e => ⟨_, Nat.le_refl _, e⟩)
    have hC2 := hV2.own.1
    obtain ⟨a2, c2, hv2⟩ := rowE_shape hrow
    subst hv2
    have hst := store_es (w := V2) p 4 a2 (J.all.length + 1) c2 (hV2.drop.own.1 4) (hV2.drop.own.2.1 4)
    have hV3 := JY.set1 (ownA_good _ _ _) hV2 4 (.slice a2 (J.all.length + 1) c2)
    have hC3 := hV3.own.1
    have j5 := hV3.drop.own.1 5
    have g5 := hV3.drop.own.2.1 5
    have hV4 := JY.set hV3.drop 5 (.int .i64 own)
    clear hV0 hV1 hV2 hrow hgr hlo hnil hE1
    refine jtwo 4 7 (by kernel_rfl) ?_ ?_
    · refine jop_one 4 tp4 (some 30) (.slice ao J.all.length cap) V0 ?_ rfl (by rfl) (jexec_load_es (.tmp 29) rfl p 4 rfl k4) hC0 ?_
      · rfl
      simp only [Act.put, List.setIfInBounds_toArray, List.set_cons_zero, List.set_cons_succ]
      refine held_one 7 tp7 (some 33) (.slice (some ⟨V0.heap.size, 0, none⟩) 1 1) _ (by kernel_rfl) rfl rfl (by rfl) (jexec_slice_ev (.tmp 32) rfl (⟨k, u, q, a, x, y, z, t⟩ : Ev) rfl) hC1 ?_
      simp only [Act.put, List.setIfInBounds_toArray, List.set_cons_zero, List.set_cons_succ]
      refine held_one 8 tp8 (some 34) (.slice a2 (J.all.length + 1) c2) V2 (by kernel_rfl) rfl rfl (by rfl) (exec_append (.tmp 30) (.tmp 33) 36 rfl rfl rfl hr) hC2 ?_
      simp only [Act.put, List.setIfInBounds_toArray, List.set_cons_zero, List.set_cons_succ]
      refine run_go [(9, tp9, (some 35)), (10, tp10, (some 36))] (by kernel_rfl) ?_
      iterate 2 (refine run_take ?_ rfl rfl (fun _ _ _ h => h) (Or.inl ⟨by rfl, ?_⟩) hC2 ?_; rotate_left; (· (intro w0 hy0; have e3 := hy0 3; have e4 := hy0 4; have e5 := hy0 5; have e6 := hy0 6; have e7 := hy0 7; have e8 := hy0 8; have e9 := hy0 9; have e10 := hy0 10; (go_simp <;> with_reducible rfl))); simp only [Act.put, List.setIfInBounds_toArray, List.set_cons_zero, List.set_cons_succ])
      refine run_end ?_
      refine held_void 11 tp11 _ (by kernel_rfl) rfl (by rfl) (exec_store 36 (.tmp 36) (.tmp 34) rfl rfl rfl hst) hC3 ?_
      simp only [Act.put, List.setIfInBounds_toArray, List.set_cons_zero, List.set_cons_succ]
      refine wpAnyH_done (by kernel_rfl) ?_ _
      clear hC0 hC1 hC2 hC3 k4 k41 hst hr
      go_wp2
      go_ret
      refine ⟨rfl, Becomes.hidv (v := .slice a2 (J.all.length + 1) c2) ?_ (by simp)⟩
      exact hV4
    · refine jop_one 7 tp7 (some 33) (.slice (some ⟨V0.heap.size, 0, none⟩) 1 1) _ ?_ rfl (by rfl) (jexec_slice_ev (.tmp 32) rfl (⟨k, u, q, a, x, y, z, t⟩ : Ev) rfl) hC1 ?_
      · rfl
      simp only [Act.put, List.setIfInBounds_toArray, List.set_cons_zero, List.set_cons_succ]
      refine held_one 4 tp4 (some 30) (.slice ao J.all.length cap) _ (by kernel_rfl) rfl rfl (by rfl) (jexec_load_es (.tmp 29) rfl p 4 rfl k41) hC1 ?_
      simp only [Act.put, List.setIfInBounds_toArray, List.set_cons_zero, List.set_cons_succ]
      refine held_one 8 tp8 (some 34) (.slice a2 (J.all.length + 1) c2) V2 (by kernel_rfl) rfl rfl (by rfl) (exec_append (.tmp 30) (.tmp 33) 36 rfl rfl rfl hr) hC2 ?_
      simp only [Act.put, List.setIfInBounds_toArray, List.set_cons_zero, List.set_cons_succ]
      refine run_go [(9, tp9, (some 35)), (10, tp10, (some 36))] (by kernel_rfl) ?_
      iterate 2 (refine run_take ?_ rfl rfl (fun _ _ _ h => h) (Or.inl ⟨by rfl, ?_⟩) hC2 ?_; rotate_left; (· (intro w0 hy0; have e3 := hy0 3; have e4 := hy0 4; have e5 := hy0 5; have e6 := hy0 6; have e7 := hy0 7; have e8 := hy0 8; have e9 := hy0 9; have e10 := hy0 10; (go_simp <;> with_reducible rfl))); simp only [Act.put, List.setIfInBounds_toArray, List.set_cons_zero, List.set_cons_succ])
      refine run_end ?_
      refine held_void 11 tp11 _ (by kernel_rfl) rfl (by rfl) (exec_store 36 (.tmp 36) (.tmp 34) rfl rfl rfl hst) hC3 ?_
      simp only [Act.put, List.setIfInBounds_toArray, List.set_cons_zero, List.set_cons_succ]
      refine wpAnyH_done (by kernel_rfl) ?_ _
      clear hC0 hC1 hC2 hC3 k4 k41 hst hr
      go_wp2
      go_ret
      refine ⟨rfl, Becomes.hidv (v := .slice a2 (J.all.length + 1) c2) ?_ (by simp)⟩
      exact hV4
end Go.Proofs.YtbfpfmidjdonjaaGreatDoor
