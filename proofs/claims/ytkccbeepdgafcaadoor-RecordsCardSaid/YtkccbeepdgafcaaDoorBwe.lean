/- Put together: Rcp10, Rcprog. Conditions: each theorem's own. -/
import Derived.Test.YtkccbeepdgafcaaDoorBwd
import Derived.Test.YtkccbeepdgafcaaDoorBpm
namespace Go.Proofs.YtkccbeepdgafcaaDoor
open Go Go.RowKit

theorem bne9 {s t : ByteArray} (h : s ≠ t) : (s.toList == t.toList) = false := by
  cases c : (s.toList == t.toList)
  · rfl
  · exfalso
    refine h ?_
    have h1 : s.toList = t.toList := by simpa using c
    obtain ⟨⟨a⟩⟩ := s
    obtain ⟨⟨b⟩⟩ := t
    rw [ByteArray.toList_mk, ByteArray.toList_mk] at h1
    exact congrArg (fun l => (⟨⟨l⟩⟩ : ByteArray)) h1
theorem getA_good (p q n : Nat) (name most : Int) (ts : List ByteArray) : (getA p q n name most ts).Good := (ownA_good _ _ _).star ((ownA_good _ _ _).star (bookA_good _ _ _))
/-- write in Get: what it answers. -/
def wgOk (ts : List ByteArray) (r : Rc) (own : Int) : Bool := r.may && ckI ts true r.tm own
theorem pwrite_get (p q n : Nat) (most : Int) (ts : List ByteArray) (r : Rc) (own : Int) (ho : okNum own = true) :
    DoesG Tryd.prog (getA p q n own most ts) 21 #[r.val, .func (.func 31) #[] #[.pointer (some ⟨n, 0, none⟩), .pointer (some ⟨q, 0, none⟩)]]
      (.returned (.tuple #[.string (if wgOk ts r own then r.sec own else ⟨#[]⟩), .int .i64 (if wgOk ts r own then own else 0), .bool (wgOk ts r own)])) (getA p q n own most ts) := by
  unfold wgOk
  cases hm : r.may with
  | false =>
    intro w F h hg
    exact (pwrite_no_get n q r hm w).mono fun e w' ⟨a, b⟩ => ⟨a, Becomes.same (getA_good _ _ _ _ _ _) h b⟩
  | true =>
    have hd := (pget1 p q n own most ts (markR ++ r.body) (Nat.le_trans r.mark_size (by decide))).g
    rw [show okK none = true from rfl, show tmK cH none (markR ++ r.body) = r.tm from rfl] at hd
    cases hc : ckI ts true r.tm own with
    | false =>
      rw [hc] at hd
      exact pwrite_false_get n q r own ho _ _ (getA_good _ _ _ _ _ _) (getA_good _ _ _ _ _ _) hm hd
    | true =>
      rw [hc] at hd
      exact pwrite_true_get n q r own ho _ _ (getA_good _ _ _ _ _ _) (getA_good _ _ _ _ _ _) hm hd
abbrev Z11 : Array Value := #[.int .i64 0, .int .i64 0, .int .i64 0, .int .i64 0, .int .i64 0, .int .i64 0, .int .i64 0, .int .i64 0, .int .i64 0, .int .i64 0, .int .i64 0]
def BOwn (F : List Nat) (b : Nat) (T : TypeId) (C : Ass) (w W : World) : Prop := ∃ c, Becomes F ((ownA b c T).star C) w W
theorem BOwn.poke {F : List Nat} {b : Nat} {T : TypeId} {C : Ass} {w W : World} (hC : C.Good) (i : Nat) (v : Value) (h : BOwn F b T C w W) : BOwn F b T C w (W.setCell ⟨b, i, Option.none⟩ v) := by
  obtain ⟨c, h⟩ := h
  exact ⟨_, Becomes.poke hC h i v⟩
theorem BOwn.drop {F : List Nat} {b : Nat} {T : TypeId} {C : Ass} {w W : World} (h : BOwn F b T C w W) : Becomes F C w W := by
  obtain ⟨c, h⟩ := h
  exact Becomes.drop h
theorem BOwn.drew {F : List Nat} {b : Nat} {T : TypeId} {C : Ass} {w W : World} (hC : C.Good) (h : BOwn F b T C w W) : BOwn F b T C w W.drew := by
  obtain ⟨c, h⟩ := h
  exact ⟨c, h.lay ((ownA_good _ _ _).star hC) (bdrew W)⟩
theorem BOwn.out {F : List Nat} {b : Nat} {T : TypeId} {p q n : Nat} {name most : Int} {ts : List ByteArray} {w W : World} (h : BOwn F b T (getA p q n name most ts) w W) : Becomes F (bookA p most ts) w W := Becomes.drop (Becomes.drop h.drop)
theorem Becomes.hold2 {F : List Nat} {A : Ass} {w W : World} (hA : A.Good) (h : Becomes F A w W) (n : Nat) (hn : W.heap.size = n) (c : Array Value) (T : TypeId) : Becomes F ((ownA n c T).star A) w (W.alloc (.cells c T)) := by
  subst hn; exact h.hold hA c T
set_option maxRecDepth 100000 in
set_option maxHeartbeats 8000000 in
theorem pget_none (p : Nat) (most : Int) (ts : List ByteArray) (s : ByteArray) (seq prev : Int) (w : World) (F : List Nat) (h : bookA p most ts w F)
    (hR : ∀ w, Gd w → Calls Tryd.prog 30 #[.string s] w fun e w' => e = .returned (.tuple #[.agg Z11, .int .i64 0, .bool false]) ∧ Below w.heap.size w w') (hg : Gd w) :
    Calls Tryd.prog 13 #[.pointer (some ⟨p, 0, none⟩), .string s, .int .i64 seq, .int .i64 prev] w fun e w' => e = .returned (.tuple #[.agg Z11, .int .i64 0, .int .i64 900]) ∧ Becomes F (bookA p most ts) w w' := by
  have hr := ((Gr.refl hg).alloc (.cells #[.pointer (some ⟨p, 0, none⟩)] 23)).alloc (.cells Z11 34)
  have hS := ((Becomes.refl h).lay (bookA_good _ _ _) (balloc _ (.cells #[.pointer (some ⟨p, 0, none⟩)] 23))).hold2 (bookA_good _ _ _) (w.heap.size + 1) (by simp) Z11 34
  obtain ⟨e1, g1, l1⟩ := hS.own
  have HR := Lib.hid hR
  clear hR hg h
  have hG : Ass.Good ((ownA (w.heap.size + 1) Z11 34).star (bookA p most ts)) := (ownA_good _ _ _).star (bookA_good _ _ _)
  go_enter Tryd.func13, Tryd.ntmps13
  go_wp2_with (go_at_call 30; (with_reducible refine (HR.out _ hr.good).mono ?_); rintro e w1 ⟨rfl, hb⟩; replace hS := ((hS.lay hG hb).lay hG (balloc _ (.cells Z11 34))).lay hG (balloc _ (.cells #[.int .i64 0] 3)); obtain ⟨e1, g1, l1⟩ := hS.own; clear hb)
  refine bodyPost_ret (v := .tuple #[.agg Z11, .int .i64 0, .int .i64 900]) (by simp [results, Tryd.results13, go_sem, e1]) rfl (And.intro rfl ?_)
  refine BOwn.drop (b := w.heap.size + 1) (T := 34) ?_
  repeat (with_reducible refine BOwn.poke (bookA_good _ _ _) _ _ ?_)
  exact ⟨_, hS⟩
set_option maxRecDepth 100000 in
set_option maxHeartbeats 8000000 in
theorem pget_w0 (p : Nat) (most : Int) (ts : List ByteArray) (s S : ByteArray) (seq prev x1 x2 x3 k u q a x y z t own N : Int)  (w : World) (F : List Nat) (h : bookA p most ts w F)
    (hR : ∀ w, Gd w → Calls Tryd.prog 30 #[.string s] w fun e w' => e = .returned (.tuple #[.agg #[.int .i64 x1, .int .i64 x2, .int .i64 x3, .int .i64 k, .int .i64 u, .int .i64 q, .int .i64 a, .int .i64 x, .int .i64 y, .int .i64 z, .int .i64 t], .int .i64 own, .bool true]) ∧ Below w.heap.size w w')
    (hW : ∀ n m, DoesG Tryd.prog (getA p n m own most ts) 21 #[.agg #[.int .i64 x1, .int .i64 x2, .int .i64 x3, .int .i64 k, .int .i64 u, .int .i64 q, .int .i64 a, .int .i64 x, .int .i64 y, .int .i64 z, .int .i64 t], .func (.func 31) #[] #[.pointer (some ⟨m, 0, none⟩), .pointer (some ⟨n, 0, none⟩)]] (.returned (.tuple #[.string S, .int .i64 N, .bool false])) (getA p n m own most ts)) (hg : Gd w) :
    Calls Tryd.prog 13 #[.pointer (some ⟨p, 0, none⟩), .string s, .int .i64 seq, .int .i64 prev] w fun e w' => e = .returned (.tuple #[.agg Z11, .int .i64 0, .int .i64 900]) ∧ Becomes F (bookA p most ts) w w' := by
  have hr := ((Gr.refl hg).alloc (.cells #[.pointer (some ⟨p, 0, none⟩)] 23)).alloc (.cells Z11 34)
  have hS := ((Becomes.refl h).hold (bookA_good _ _ _) #[.pointer (some ⟨p, 0, none⟩)] 23).hold2 ((ownA_good _ _ _).star (bookA_good _ _ _)) (w.heap.size + 1) (by simp) Z11 34
  obtain ⟨e1, g1, l1⟩ := hS.own
  obtain ⟨e2, g2, l2⟩ := hS.drop.own
  have HR := Lib.hid hR
  have HW := Lib.hid hW
  clear hR hW hg h
  have hG : Ass.Good ((ownA (w.heap.size + 1) Z11 34).star ((ownA w.heap.size #[.pointer (some ⟨p, 0, none⟩)] 23).star (bookA p most ts))) := (ownA_good _ _ _).star ((ownA_good _ _ _).star (bookA_good _ _ _))
  go_enter Tryd.func13, Tryd.ntmps13
  go_wp2_with (first
    | (go_at_call 30; (with_reducible refine (HR.out _ hr.good).mono ?_); rintro e w1 ⟨rfl, hb⟩; replace hr := ((hr.step hb).alloc (.cells #[.int .i64 x1, .int .i64 x2, .int .i64 x3, .int .i64 k, .int .i64 u, .int .i64 q, .int .i64 a, .int .i64 x, .int .i64 y, .int .i64 z, .int .i64 t] 34)).alloc (.cells #[.int .i64 own] 3); replace hS := (((hS.lay hG hb).hold hG #[.int .i64 x1, .int .i64 x2, .int .i64 x3, .int .i64 k, .int .i64 u, .int .i64 q, .int .i64 a, .int .i64 x, .int .i64 y, .int .i64 z, .int .i64 t] 34).hold2 ((ownA_good _ _ _).star hG) (w1.heap.size + 1) (by simp) #[.int .i64 own] 3).imp (Ass.imp.dn2 _ _ _ _); obtain ⟨e1, g1, l1⟩ := hS.own; obtain ⟨e2, g2, l2⟩ := hS.drop.own; obtain ⟨e3, g3, l3⟩ := hS.drop.drop.own; have HK := Lib.hid (fun W => BOwn.out (F := F) (b := w.heap.size + 1) (T := 34) (p := p) (q := w.heap.size) (n := w1.heap.size + 1) (name := own) (most := most) (ts := ts) (w := w) (W := W)); clear hb)
    | (go_at_call 21; (with_reducible refine (Becomes.op2G (HW.out _ _) (ownA_good _ _ _) (ownA_good _ _ _) hS hr.good).mono ?_); rintro e w2 ⟨rfl, hS1⟩; obtain ⟨e1, g1, l1⟩ := hS1.own; obtain ⟨e2, g2, l2⟩ := hS1.drop.own; obtain ⟨e3, g3, l3⟩ := hS1.drop.drop.own; clear hS))
  refine bodyPost_ret (v := .tuple #[.agg Z11, .int .i64 0, .int .i64 900]) (by simp [results, Tryd.results13, go_sem, e2]) rfl (And.intro rfl ?_)
  refine HK.out _ ?_
  repeat (with_reducible refine BOwn.poke (getA_good _ _ _ _ _ _) _ _ ?_)
  exact ⟨_, hS1.drop⟩
set_option maxRecDepth 100000 in
set_option maxHeartbeats 8000000 in
theorem pget_w1 (p : Nat) (most : Int) (ts : List ByteArray) (s S : ByteArray) (seq prev x1 x2 x3 k u q a x y z t own N : Int) (hne : (S.toList == s.toList) = false) (w : World) (F : List Nat) (h : bookA p most ts w F)
    (hR : ∀ w, Gd w → Calls Tryd.prog 30 #[.string s] w fun e w' => e = .returned (.tuple #[.agg #[.int .i64 x1, .int .i64 x2, .int .i64 x3, .int .i64 k, .int .i64 u, .int .i64 q, .int .i64 a, .int .i64 x, .int .i64 y, .int .i64 z, .int .i64 t], .int .i64 own, .bool true]) ∧ Below w.heap.size w w')
    (hW : ∀ n m, DoesG Tryd.prog (getA p n m own most ts) 21 #[.agg #[.int .i64 x1, .int .i64 x2, .int .i64 x3, .int .i64 k, .int .i64 u, .int .i64 q, .int .i64 a, .int .i64 x, .int .i64 y, .int .i64 z, .int .i64 t], .func (.func 31) #[] #[.pointer (some ⟨m, 0, none⟩), .pointer (some ⟨n, 0, none⟩)]] (.returned (.tuple #[.string S, .int .i64 N, .bool true])) (getA p n m own most ts)) (hg : Gd w) :
    Calls Tryd.prog 13 #[.pointer (some ⟨p, 0, none⟩), .string s, .int .i64 seq, .int .i64 prev] w fun e w' => e = .returned (.tuple #[.agg Z11, .int .i64 0, .int .i64 900]) ∧ Becomes F (bookA p most ts) w w' := by
  have hr := ((Gr.refl hg).alloc (.cells #[.pointer (some ⟨p, 0, none⟩)] 23)).alloc (.cells Z11 34)
  have hS := ((Becomes.refl h).hold (bookA_good _ _ _) #[.pointer (some ⟨p, 0, none⟩)] 23).hold2 ((ownA_good _ _ _).star (bookA_good _ _ _)) (w.heap.size + 1) (by simp) Z11 34
  obtain ⟨e1, g1, l1⟩ := hS.own
  obtain ⟨e2, g2, l2⟩ := hS.drop.own
  have HR := Lib.hid hR
  have HW := Lib.hid hW
  clear hR hW hg h
  have hG : Ass.Good ((ownA (w.heap.size + 1) Z11 34).star ((ownA w.heap.size #[.pointer (some ⟨p, 0, none⟩)] 23).star (bookA p most ts))) := (ownA_good _ _ _).star ((ownA_good _ _ _).star (bookA_good _ _ _))
  go_enter Tryd.func13, Tryd.ntmps13
  go_wp2_with (first
    | (go_at_call 30; (with_reducible refine (HR.out _ hr.good).mono ?_); rintro e w1 ⟨rfl, hb⟩; replace hr := ((hr.step hb).alloc (.cells #[.int .i64 x1, .int .i64 x2, .int .i64 x3, .int .i64 k, .int .i64 u, .int .i64 q, .int .i64 a, .int .i64 x, .int .i64 y, .int .i64 z, .int .i64 t] 34)).alloc (.cells #[.int .i64 own] 3); replace hS := (((hS.lay hG hb).hold hG #[.int .i64 x1, .int .i64 x2, .int .i64 x3, .int .i64 k, .int .i64 u, .int .i64 q, .int .i64 a, .int .i64 x, .int .i64 y, .int .i64 z, .int .i64 t] 34).hold2 ((ownA_good _ _ _).star hG) (w1.heap.size + 1) (by simp) #[.int .i64 own] 3).imp (Ass.imp.dn2 _ _ _ _); obtain ⟨e1, g1, l1⟩ := hS.own; obtain ⟨e2, g2, l2⟩ := hS.drop.own; obtain ⟨e3, g3, l3⟩ := hS.drop.drop.own; have HK := Lib.hid (fun W => BOwn.out (F := F) (b := w.heap.size + 1) (T := 34) (p := p) (q := w.heap.size) (n := w1.heap.size + 1) (name := own) (most := most) (ts := ts) (w := w) (W := W)); clear hb)
    | (go_at_call 21; (with_reducible refine (Becomes.op2G (HW.out _ _) (ownA_good _ _ _) (ownA_good _ _ _) hS hr.good).mono ?_); rintro e w2 ⟨rfl, hS1⟩; obtain ⟨e1, g1, l1⟩ := hS1.own; obtain ⟨e2, g2, l2⟩ := hS1.drop.own; obtain ⟨e3, g3, l3⟩ := hS1.drop.drop.own; clear hS))
  refine bodyPost_ret (v := .tuple #[.agg Z11, .int .i64 0, .int .i64 900]) (by simp [results, Tryd.results13, go_sem, e2]) rfl (And.intro rfl ?_)
  refine HK.out _ ?_
  repeat (with_reducible refine BOwn.poke (getA_good _ _ _ _ _ _) _ _ ?_)
  exact ⟨_, hS1.drop⟩
set_option maxRecDepth 100000 in
set_option maxHeartbeats 8000000 in
theorem pget_w2 (p : Nat) (most : Int) (ts : List ByteArray) (s S : ByteArray) (seq prev x1 x2 x3 k u q a x y z t own N : Int) (hne : x1 ≠ seq) (heq : (S.toList == s.toList) = true) (w : World) (F : List Nat) (h : bookA p most ts w F)
    (hR : ∀ w, Gd w → Calls Tryd.prog 30 #[.string s] w fun e w' => e = .returned (.tuple #[.agg #[.int .i64 x1, .int .i64 x2, .int .i64 x3, .int .i64 k, .int .i64 u, .int .i64 q, .int .i64 a, .int .i64 x, .int .i64 y, .int .i64 z, .int .i64 t], .int .i64 own, .bool true]) ∧ Below w.heap.size w w')
    (hW : ∀ n m, DoesG Tryd.prog (getA p n m own most ts) 21 #[.agg #[.int .i64 x1, .int .i64 x2, .int .i64 x3, .int .i64 k, .int .i64 u, .int .i64 q, .int .i64 a, .int .i64 x, .int .i64 y, .int .i64 z, .int .i64 t], .func (.func 31) #[] #[.pointer (some ⟨m, 0, none⟩), .pointer (some ⟨n, 0, none⟩)]] (.returned (.tuple #[.string S, .int .i64 N, .bool true])) (getA p n m own most ts)) (hg : Gd w) :
    Calls Tryd.prog 13 #[.pointer (some ⟨p, 0, none⟩), .string s, .int .i64 seq, .int .i64 prev] w fun e w' => e = .returned (.tuple #[.agg Z11, .int .i64 0, .int .i64 901]) ∧ Becomes F (bookA p most ts) w w' := by
  have hr := ((Gr.refl hg).alloc (.cells #[.pointer (some ⟨p, 0, none⟩)] 23)).alloc (.cells Z11 34)
  have hS := ((Becomes.refl h).hold (bookA_good _ _ _) #[.pointer (some ⟨p, 0, none⟩)] 23).hold2 ((ownA_good _ _ _).star (bookA_good _ _ _)) (w.heap.size + 1) (by simp) Z11 34
  obtain ⟨e1, g1, l1⟩ := hS.own
  obtain ⟨e2, g2, l2⟩ := hS.drop.own
  have HR := Lib.hid hR
  have HW := Lib.hid hW
  clear hR hW hg h
  have hG : Ass.Good ((ownA (w.heap.size + 1) Z11 34).star ((ownA w.heap.size #[.pointer (some ⟨p, 0, none⟩)] 23).star (bookA p most ts))) := (ownA_good _ _ _).star ((ownA_good _ _ _).star (bookA_good _ _ _))
  go_enter Tryd.func13, Tryd.ntmps13
  go_wp2_with (first
    | (go_at_call 30; (with_reducible refine (HR.out _ hr.good).mono ?_); rintro e w1 ⟨rfl, hb⟩; replace hr := ((hr.step hb).alloc (.cells #[.int .i64 x1, .int .i64 x2, .int .i64 x3, .int .i64 k, .int .i64 u, .int .i64 q, .int .i64 a, .int .i64 x, .int .i64 y, .int .i64 z, .int .i64 t] 34)).alloc (.cells #[.int .i64 own] 3); replace hS := (((hS.lay hG hb).hold hG #[.int .i64 x1, .int .i64 x2, .int .i64 x3, .int .i64 k, .int .i64 u, .int .i64 q, .int .i64 a, .int .i64 x, .int .i64 y, .int .i64 z, .int .i64 t] 34).hold2 ((ownA_good _ _ _).star hG) (w1.heap.size + 1) (by simp) #[.int .i64 own] 3).imp (Ass.imp.dn2 _ _ _ _); obtain ⟨e1, g1, l1⟩ := hS.own; obtain ⟨e2, g2, l2⟩ := hS.drop.own; obtain ⟨e3, g3, l3⟩ := hS.drop.drop.own; have HK := Lib.hid (fun W => BOwn.out (F := F) (b := w.heap.size + 1) (T := 34) (p := p) (q := w.heap.size) (n := w1.heap.size + 1) (name := own) (most := most) (ts := ts) (w := w) (W := W)); clear hb)
    | (go_at_call 21; (with_reducible refine (Becomes.op2G (HW.out _ _) (ownA_good _ _ _) (ownA_good _ _ _) hS hr.good).mono ?_); rintro e w2 ⟨rfl, hS1⟩; obtain ⟨e1, g1, l1⟩ := hS1.own; obtain ⟨e2, g2, l2⟩ := hS1.drop.own; obtain ⟨e3, g3, l3⟩ := hS1.drop.drop.own; clear hS))
  refine bodyPost_ret (v := .tuple #[.agg Z11, .int .i64 0, .int .i64 901]) (by simp [results, Tryd.results13, go_sem, e2]) rfl (And.intro rfl ?_)
  refine HK.out _ ?_
  repeat (with_reducible refine BOwn.poke (getA_good _ _ _ _ _ _) _ _ ?_)
  exact ⟨_, hS1.drop⟩
set_option maxRecDepth 100000 in
set_option maxHeartbeats 8000000 in
theorem pget_w3 (p : Nat) (most : Int) (ts : List ByteArray) (s S : ByteArray) (seq prev x2 x3 k u q a x y z t own N : Int) (hne : x3 ≠ prev) (heq : (S.toList == s.toList) = true) (w : World) (F : List Nat) (h : bookA p most ts w F)
    (hR : ∀ w, Gd w → Calls Tryd.prog 30 #[.string s] w fun e w' => e = .returned (.tuple #[.agg #[.int .i64 seq, .int .i64 x2, .int .i64 x3, .int .i64 k, .int .i64 u, .int .i64 q, .int .i64 a, .int .i64 x, .int .i64 y, .int .i64 z, .int .i64 t], .int .i64 own, .bool true]) ∧ Below w.heap.size w w')
    (hW : ∀ n m, DoesG Tryd.prog (getA p n m own most ts) 21 #[.agg #[.int .i64 seq, .int .i64 x2, .int .i64 x3, .int .i64 k, .int .i64 u, .int .i64 q, .int .i64 a, .int .i64 x, .int .i64 y, .int .i64 z, .int .i64 t], .func (.func 31) #[] #[.pointer (some ⟨m, 0, none⟩), .pointer (some ⟨n, 0, none⟩)]] (.returned (.tuple #[.string S, .int .i64 N, .bool true])) (getA p n m own most ts)) (hg : Gd w) :
    Calls Tryd.prog 13 #[.pointer (some ⟨p, 0, none⟩), .string s, .int .i64 seq, .int .i64 prev] w fun e w' => e = .returned (.tuple #[.agg Z11, .int .i64 0, .int .i64 901]) ∧ Becomes F (bookA p most ts) w w' := by
  have hr := ((Gr.refl hg).alloc (.cells #[.pointer (some ⟨p, 0, none⟩)] 23)).alloc (.cells Z11 34)
  have hS := ((Becomes.refl h).hold (bookA_good _ _ _) #[.pointer (some ⟨p, 0, none⟩)] 23).hold2 ((ownA_good _ _ _).star (bookA_good _ _ _)) (w.heap.size + 1) (by simp) Z11 34
  obtain ⟨e1, g1, l1⟩ := hS.own
  obtain ⟨e2, g2, l2⟩ := hS.drop.own
  have HR := Lib.hid hR
  have HW := Lib.hid hW
  clear hR hW hg h
  have hG : Ass.Good ((ownA (w.heap.size + 1) Z11 34).star ((ownA w.heap.size #[.pointer (some ⟨p, 0, none⟩)] 23).star (bookA p most ts))) := (ownA_good _ _ _).star ((ownA_good _ _ _).star (bookA_good _ _ _))
  go_enter Tryd.func13, Tryd.ntmps13
  go_wp2_with (first
    | (go_at_call 30; (with_reducible refine (HR.out _ hr.good).mono ?_); rintro e w1 ⟨rfl, hb⟩; replace hr := ((hr.step hb).alloc (.cells #[.int .i64 seq, .int .i64 x2, .int .i64 x3, .int .i64 k, .int .i64 u, .int .i64 q, .int .i64 a, .int .i64 x, .int .i64 y, .int .i64 z, .int .i64 t] 34)).alloc (.cells #[.int .i64 own] 3); replace hS := (((hS.lay hG hb).hold hG #[.int .i64 seq, .int .i64 x2, .int .i64 x3, .int .i64 k, .int .i64 u, .int .i64 q, .int .i64 a, .int .i64 x, .int .i64 y, .int .i64 z, .int .i64 t] 34).hold2 ((ownA_good _ _ _).star hG) (w1.heap.size + 1) (by simp) #[.int .i64 own] 3).imp (Ass.imp.dn2 _ _ _ _); obtain ⟨e1, g1, l1⟩ := hS.own; obtain ⟨e2, g2, l2⟩ := hS.drop.own; obtain ⟨e3, g3, l3⟩ := hS.drop.drop.own; have HK := Lib.hid (fun W => BOwn.out (F := F) (b := w.heap.size + 1) (T := 34) (p := p) (q := w.heap.size) (n := w1.heap.size + 1) (name := own) (most := most) (ts := ts) (w := w) (W := W)); clear hb)
    | (go_at_call 21; (with_reducible refine (Becomes.op2G (HW.out _ _) (ownA_good _ _ _) (ownA_good _ _ _) hS hr.good).mono ?_); rintro e w2 ⟨rfl, hS1⟩; obtain ⟨e1, g1, l1⟩ := hS1.own; obtain ⟨e2, g2, l2⟩ := hS1.drop.own; obtain ⟨e3, g3, l3⟩ := hS1.drop.drop.own; clear hS))
  refine bodyPost_ret (v := .tuple #[.agg Z11, .int .i64 0, .int .i64 901]) (by simp [results, Tryd.results13, go_sem, e2]) rfl (And.intro rfl ?_)
  refine HK.out _ ?_
  repeat (with_reducible refine BOwn.poke (getA_good _ _ _ _ _ _) _ _ ?_)
  exact ⟨_, hS1.drop⟩
set_option maxRecDepth 100000 in
set_option maxHeartbeats 8000000 in
theorem pget_w4 (p : Nat) (most : Int) (ts : List ByteArray) (s S : ByteArray) (seq prev x2 k u q a x y z t own N : Int) (heq : (S.toList == s.toList) = true) (w : World) (F : List Nat) (h : bookA p most ts w F)
    (hR : ∀ w, Gd w → Calls Tryd.prog 30 #[.string s] w fun e w' => e = .returned (.tuple #[.agg #[.int .i64 seq, .int .i64 x2, .int .i64 prev, .int .i64 k, .int .i64 u, .int .i64 q, .int .i64 a, .int .i64 x, .int .i64 y, .int .i64 z, .int .i64 t], .int .i64 own, .bool true]) ∧ Below w.heap.size w w')
    (hW : ∀ n m, DoesG Tryd.prog (getA p n m own most ts) 21 #[.agg #[.int .i64 seq, .int .i64 x2, .int .i64 prev, .int .i64 k, .int .i64 u, .int .i64 q, .int .i64 a, .int .i64 x, .int .i64 y, .int .i64 z, .int .i64 t], .func (.func 31) #[] #[.pointer (some ⟨m, 0, none⟩), .pointer (some ⟨n, 0, none⟩)]] (.returned (.tuple #[.string S, .int .i64 N, .bool true])) (getA p n m own most ts)) (hg : Gd w) :
    Calls Tryd.prog 13 #[.pointer (some ⟨p, 0, none⟩), .string s, .int .i64 seq, .int .i64 prev] w fun e w' => e = .returned (.tuple #[.agg #[.int .i64 seq, .int .i64 x2, .int .i64 prev, .int .i64 k, .int .i64 u, .int .i64 q, .int .i64 a, .int .i64 x, .int .i64 y, .int .i64 z, .int .i64 t], .int .i64 own, .int .i64 0]) ∧ Becomes F (bookA p most ts) w w' := by
  have hr := ((Gr.refl hg).alloc (.cells #[.pointer (some ⟨p, 0, none⟩)] 23)).alloc (.cells Z11 34)
  have hS := ((Becomes.refl h).hold (bookA_good _ _ _) #[.pointer (some ⟨p, 0, none⟩)] 23).hold2 ((ownA_good _ _ _).star (bookA_good _ _ _)) (w.heap.size + 1) (by simp) Z11 34
  obtain ⟨e1, g1, l1⟩ := hS.own
  obtain ⟨e2, g2, l2⟩ := hS.drop.own
  have HR := Lib.hid hR
  have HW := Lib.hid hW
  clear hR hW hg h
  have hG : Ass.Good ((ownA (w.heap.size + 1) Z11 34).star ((ownA w.heap.size #[.pointer (some ⟨p, 0, none⟩)] 23).star (bookA p most ts))) := (ownA_good _ _ _).star ((ownA_good _ _ _).star (bookA_good _ _ _))
  go_enter Tryd.func13, Tryd.ntmps13
  go_wp2_with (first
    | (go_at_call 30; (with_reducible refine (HR.out _ hr.good).mono ?_); rintro e w1 ⟨rfl, hb⟩; replace hr := ((hr.step hb).alloc (.cells #[.int .i64 seq, .int .i64 x2, .int .i64 prev, .int .i64 k, .int .i64 u, .int .i64 q, .int .i64 a, .int .i64 x, .int .i64 y, .int .i64 z, .int .i64 t] 34)).alloc (.cells #[.int .i64 own] 3); replace hS := (((hS.lay hG hb).hold hG #[.int .i64 seq, .int .i64 x2, .int .i64 prev, .int .i64 k, .int .i64 u, .int .i64 q, .int .i64 a, .int .i64 x, .int .i64 y, .int .i64 z, .int .i64 t] 34).hold2 ((ownA_good _ _ _).star hG) (w1.heap.size + 1) (by simp) #[.int .i64 own] 3).imp (Ass.imp.dn2 _ _ _ _); obtain ⟨e1, g1, l1⟩ := hS.own; obtain ⟨e2, g2, l2⟩ := hS.drop.own; obtain ⟨e3, g3, l3⟩ := hS.drop.drop.own; have HK := Lib.hid (fun W => BOwn.out (F := F) (b := w.heap.size + 1) (T := 34) (p := p) (q := w.heap.size) (n := w1.heap.size + 1) (name := own) (most := most) (ts := ts) (w := w) (W := W)); have hw1 : ¬ w.heap.size = w1.heap.size := (by have := hb.size; simp at this; omega); have hw2 : ¬ w1.heap.size = w.heap.size := fun c => hw1 c.symm; clear hb)
    | (go_at_call 21; (with_reducible refine (Becomes.op2G (HW.out _ _) (ownA_good _ _ _) (ownA_good _ _ _) hS hr.good).mono ?_); rintro e w2 ⟨rfl, hS1⟩; obtain ⟨e1, g1, l1⟩ := hS1.own; obtain ⟨e2, g2, l2⟩ := hS1.drop.own; obtain ⟨e3, g3, l3⟩ := hS1.drop.drop.own; clear hS))
  go_region
  all_goals
    go_wp2
    refine bodyPost_ret (v := .tuple #[.agg #[.int .i64 seq, .int .i64 x2, .int .i64 prev, .int .i64 k, .int .i64 u, .int .i64 q, .int .i64 a, .int .i64 x, .int .i64 y, .int .i64 z, .int .i64 t], .int .i64 own, .int .i64 0]) (by simp [results, Tryd.results13, go_sem, e2]) rfl (And.intro rfl ?_)
    refine HK.out _ (BOwn.drew (getA_good _ _ _ _ _ _) ?_)
    repeat (with_reducible refine BOwn.poke (getA_good _ _ _ _ _ _) _ _ ?_)
    exact ⟨_, hS1.drop⟩
end Go.Proofs.YtkccbeepdgafcaaDoor

namespace Go.Proofs.YtkccbeepdgafcaaDoor
open Go Go.RowKit

theorem dpget (p : Nat) (most : Int) (ts : List ByteArray) (s : ByteArray) (seq prev : Int) (hs : s.size ≤ 9223372036854770000) : DoesG Tryd.prog (bookA p most ts) 13 #[.pointer (some ⟨p, 0, none⟩), .string s, .int .i64 seq, .int .i64 prev]
    (.returned (.tuple #[(rgR ts s seq prev).val, .int .i64 (rgN ts s seq prev), .int .i64 (rgE ts s seq prev)])) (bookA p most ts) := by
  intro w F h hg
  have hR := fun w hg => pread s w hs hg
  have hf := find_P ts s
  cases hp : rdP s with
  | none =>
    rw [hp] at hf
    obtain ⟨q1, q2, q3⟩ := find_no hf seq prev
    rw [q1, q2, q3]
    rw [show rdV s = .returned (.tuple #[.agg Z11, .int .i64 0, .bool false]) by unfold rdV; rw [hp]; rfl] at hR
    exact pget_none p most ts s seq prev w F h hR hg
  | some x =>
    obtain ⟨r, own⟩ := x
    have ho := rdP_num hp
    have hW := fun n m => pwrite_get p n m most ts r own ho
    rw [hp] at hf
    replace hf : rcFind ts s = if r.may && ckI ts true r.tm own && decide (r.sec own = s) then some (r, own) else none := hf
    rw [show rdV s = .returned (.tuple #[r.val, .int .i64 own, .bool true]) by unfold rdV; rw [hp]] at hR
    cases hk : wgOk ts r own with
    | false =>
      have hk' : (r.may && ckI ts true r.tm own) = false := hk
      rw [hk', Bool.false_and] at hf
      obtain ⟨q1, q2, q3⟩ := find_no hf seq prev
      rw [q1, q2, q3]
      rw [hk] at hW
      obtain ⟨x1, x2, x3, ⟨k, u, q, a, x, y, z, t⟩⟩ := r
      exact pget_w0 p most ts s _ seq prev _ _ _ _ _ _ _ _ _ _ _ own _ w F h hR hW hg
    | true =>
      have hk' : (r.may && ckI ts true r.tm own) = true := hk
      rw [hk', Bool.true_and] at hf
      rw [hk] at hW
      replace hW : ∀ n m, DoesG Tryd.prog (getA p n m own most ts) 21 #[r.val, .func (.func 31) #[] #[.pointer (some ⟨m, 0, none⟩), .pointer (some ⟨n, 0, none⟩)]] (.returned (.tuple #[.string (r.sec own), .int .i64 own, .bool true])) (getA p n m own most ts) := hW
      by_cases hc : r.sec own = s
      · simp only [Bool.and_eq_true] at hk'
        obtain ⟨_, f1, f2⟩ := find_of hk'.1 ho hk'.2 seq prev
        rw [hc] at f1 f2 hW
        by_cases h1 : r.seq = seq
        · by_cases h2 : r.prev = prev
          · obtain ⟨q1, q2, q3⟩ := f1 ⟨h1, h2⟩
            rw [q1, q2, q3]
            obtain ⟨x1, x2, x3, ⟨k, u, q, a, x, y, z, t⟩⟩ := r
            simp only at h1 h2
            subst h1 h2
            exact pget_w4 p most ts s _ _ _ _ _ _ _ _ _ _ _ _ own _ (by simp) w F h hR hW hg
          · obtain ⟨q1, q2, q3⟩ := f2 (fun c => h2 c.2)
            rw [q1, q2, q3]
            obtain ⟨x1, x2, x3, ⟨k, u, q, a, x, y, z, t⟩⟩ := r
            simp only at h1 h2
            subst h1
            exact pget_w3 p most ts s _ _ prev _ _ _ _ _ _ _ _ _ _ own _ h2 (by simp) w F h hR hW hg
        · obtain ⟨q1, q2, q3⟩ := f2 (fun c => h1 c.1)
          rw [q1, q2, q3]
          obtain ⟨x1, x2, x3, ⟨k, u, q, a, x, y, z, t⟩⟩ := r
          exact pget_w2 p most ts s _ seq prev _ _ _ _ _ _ _ _ _ _ _ own _ h1 (by simp) w F h hR hW hg
      · rw [decide_eq_false hc] at hf
        obtain ⟨q1, q2, q3⟩ := find_no hf seq prev
        rw [q1, q2, q3]
        have hb := bne9 hc
        obtain ⟨x1, x2, x3, ⟨k, u, q, a, x, y, z, t⟩⟩ := r
        exact pget_w1 p most ts s _ seq prev _ _ _ _ _ _ _ _ _ _ _ own _ hb w F h hR hW hg
end Go.Proofs.YtkccbeepdgafcaaDoor

