/- Put together: Rcp5, Rcp6. Conditions: each theorem's own. -/
import Derived.Test.YtkccbeepdgafcaaDoorBwa
import Derived.Test.YtkccbeepdgafcaaDoorBwb
import Derived.Test.YtkccbeepdgafcaaDoorDoesG
import Derived.Test.YtkccbeepdgafcaaDoorBme
import Derived.Test.YtkccbeepdgafcaaDoorBbk
import Derived.Deep.RegionWith
namespace Go.Proofs.YtkccbeepdgafcaaDoor
open Go Go.RowKit

theorem Becomes.op1 {P : Program} {A A' B : Ass} {f : FuncId} {args : Array Value} {v : Ending} (hd : Does P A f args v A') (hB : B.Good) {F : List Nat} {w w1 : World} (h : Becomes F (B.star A) w w1) : Calls P f args w1 fun e w' => e = v ∧ Becomes F (B.star A') w w' := by
  obtain ⟨F', ⟨F1, F2, rfl, h1, h2, h3⟩, g2, g3⟩ := h
  refine (hd w1 F2 h2).mono ?_
  rintro e w' ⟨he, hk⟩
  obtain ⟨F3, k1, k2, k3⟩ := hk.frameR hB h1 h3
  refine ⟨he, F3, k1, g2.trans k2 g3, fun k hk => ?_⟩
  rcases k3 k hk with c | c
  · exact g3 k c
  · exact .inr (Nat.le_trans g2.size c)
theorem Becomes.op2 {P : Program} {A A' B B2 : Ass} {f : FuncId} {args : Array Value} {v : Ending} (hd : Does P A f args v A') (hB : B.Good) (hB2 : B2.Good) {F : List Nat} {w w1 : World} (h : Becomes F (B.star (B2.star A)) w w1) : Calls P f args w1 fun e w' => e = v ∧ Becomes F (B.star (B2.star A')) w w' := by
  obtain ⟨F', ⟨F1, _, rfl, h1, ⟨F2, F3, rfl, h2, h3, h5⟩, h4⟩, g2, g3⟩ := h
  refine (hd w1 F3 h3).mono ?_
  rintro e w' ⟨he, hk⟩
  obtain ⟨F4, k1, k2, k3⟩ := (hk.frameR hB2 h2 h5).frameR hB h1 h4
  refine ⟨he, F4, k1, g2.trans k2 g3, fun k hk => ?_⟩
  rcases k3 k hk with c | c
  · exact g3 k c
  · exact .inr (Nat.le_trans g2.size c)
theorem bdrew (w : World) : Below w.heap.size w w.drew := ⟨rfl, rfl, rfl, Nat.le_refl _, fun _ _ => rfl⟩
theorem balloc (w : World) (o : Obj) : Below w.heap.size w (w.alloc o) := (Below.refl _ _).alloc (Nat.le_refl _) o

/-- Put's own function: the hash's name is made. -/
abbrev putA (p q : Nat) (most : Int) (ts : List ByteArray) : Ass := (ownA q #[.pointer (some ⟨p, 0, none⟩)] 23).star (bookA p most ts)
set_option maxHeartbeats 4000000 in
theorem pput1 (p q : Nat) (most : Int) (ts : List ByteArray) (s : ByteArray) (hs : s.size ≤ 9223372036854770000) : Does Tryd.prog (putA p q most ts) 22 #[.string s, .pointer (some ⟨q, 0, none⟩)]
    (.returned (.tuple #[.int .i64 (ckX most ts (okK none) (tmK cH none s)), .bool (decide (ckE most ts (okK none) (tmK cH none s) = 0))])) (putA p q most (ckT most ts (okK none) (tmK cH none s))) := by
  intro w F h
  have HH := Lib.hid (dhash p most ts s hs)
  have hS : Becomes F (putA p q most ts) w w := Becomes.refl h
  clear h
  obtain ⟨e1, g1, l1⟩ := hS.own
  generalize ckX most ts (okK none) (tmK cH none s) = X at *
  generalize ckT most ts (okK none) (tmK cH none s) = T at *
  generalize ckE most ts (okK none) (tmK cH none s) = E at *
  go_enter Tryd.func22, Tryd.ntmps22
  go_wp2_with (go_at_call 23; (with_reducible refine (Becomes.op1 HH.out (ownA_good _ _ _) hS).mono ?_); rintro e w1 ⟨rfl, hS1⟩; clear hS)
  go_ret2
  exact ⟨rfl, hS1⟩
abbrev getA (p q n : Nat) (name : Int) (most : Int) (ts : List ByteArray) : Ass := (ownA n #[.int .i64 name] 3).star ((ownA q #[.pointer (some ⟨p, 0, none⟩)] 23).star (bookA p most ts))
set_option maxHeartbeats 4000000 in
theorem pget1 (p q n : Nat) (name : Int) (most : Int) (ts : List ByteArray) (s : ByteArray) (hs : s.size ≤ 9223372036854770000) : Does Tryd.prog (getA p q n name most ts) 31 #[.string s, .pointer (some ⟨n, 0, none⟩), .pointer (some ⟨q, 0, none⟩)]
    (.returned (.tuple #[.int .i64 name, .bool (ckI ts (okK none) (tmK cH none s) name)])) (getA p q n name most ts) := by
  intro w F h
  have HH := Lib.hid (dishash p most ts s name hs)
  have hS : Becomes F (getA p q n name most ts) w w := Becomes.refl h
  clear h
  have hg : (getA p q n name most ts).Good := (ownA_good _ _ _).star ((ownA_good _ _ _).star (bookA_good _ _ _))
  have hD := hS.lay hg (bdrew w)
  clear hS hg
  obtain ⟨e1, g1, l1⟩ := hD.own
  obtain ⟨e2, g2, l2⟩ := hD.drop.own
  generalize ckI ts (okK none) (tmK cH none s) name = B at *
  go_enter Tryd.func31, Tryd.ntmps31
  go_wp2
  go_region_with ((go_at_call 32; (with_reducible refine (Becomes.op2 HH.out (ownA_good _ _ _) (ownA_good _ _ _) hD).mono ?_); rintro e w1 ⟨rfl, hS1⟩; obtain ⟨e3, g3, l3⟩ := hS1.own; obtain ⟨e4, g4, l4⟩ := hS1.drop.own))
  all_goals
    go_wp2
    go_ret2
    exact ⟨rfl, hS1⟩
end Go.Proofs.YtkccbeepdgafcaaDoor

namespace Go.Proofs.YtkccbeepdgafcaaDoor
open Go Go.RowKit

theorem Rc.mark_size (r : Rc) : (markR ++ r.body).size ≤ 60 := by
  rw [ByteArray.size_append, show markR.size = 6 from rfl]
  have := r.body_small
  omega
set_option maxRecDepth 100000 in
set_option maxHeartbeats 8000000 in
theorem pwrite_no_put (q : Nat) (r : Rc) (hm : r.may = false) (w : World) : Calls Tryd.prog 21 #[r.val, .func (.func 22) #[] #[.pointer (some ⟨q, 0, none⟩)]] w fun e w' => e = .returned (.tuple #[.string ⟨#[]⟩, .int .i64 0, .bool false]) ∧ Below w.heap.size w w' := by
  have hj := fun w => pjoin_no r hm w
  obtain ⟨seq, boot, prev, ⟨k, u, s, a, x, y, z, t⟩⟩ := r
  unfold Rc.val at hj ⊢
  simp only at hj ⊢
  have HJ := Lib.hid hj
  clear hj hm
  go_enter Tryd.func21, Tryd.ntmps21
  go_wp2_with (go_at_call 40; (with_reducible refine (HJ.out _).mono ?_); rintro e w1 ⟨rfl, hb⟩; have hB := (balloc w _).trans (hb.mono (balloc w _).size))
  go_ret3
  exact ⟨rfl, hB⟩
set_option maxRecDepth 100000 in
set_option maxHeartbeats 8000000 in
theorem pwrite_no_get (n q : Nat) (r : Rc) (hm : r.may = false) (w : World) : Calls Tryd.prog 21 #[r.val, .func (.func 31) #[] #[.pointer (some ⟨n, 0, none⟩), .pointer (some ⟨q, 0, none⟩)]] w fun e w' => e = .returned (.tuple #[.string ⟨#[]⟩, .int .i64 0, .bool false]) ∧ Below w.heap.size w w' := by
  have hj := fun w => pjoin_no r hm w
  obtain ⟨seq, boot, prev, ⟨k, u, s, a, x, y, z, t⟩⟩ := r
  unfold Rc.val at hj ⊢
  simp only at hj ⊢
  have HJ := Lib.hid hj
  clear hj hm
  go_enter Tryd.func21, Tryd.ntmps21
  go_wp2_with (go_at_call 40; (with_reducible refine (HJ.out _).mono ?_); rintro e w1 ⟨rfl, hb⟩; have hB := (balloc w _).trans (hb.mono (balloc w _).size))
  go_ret3
  exact ⟨rfl, hB⟩
set_option maxRecDepth 100000 in
set_option maxHeartbeats 8000000 in
theorem pwrite_true_put (q : Nat) (r : Rc) (own : Int) (ho : okNum own = true) (A A' : Ass) (hA : A.Good) (hA' : A'.Good) (hm : r.may = true)
    (hd : DoesG Tryd.prog A 22 (#[.string (markR ++ r.body)] ++ #[.pointer (some ⟨q, 0, none⟩)]) (.returned (.tuple #[.int .i64 own, .bool true])) A') :
    DoesG Tryd.prog A 21 #[r.val, .func (.func 22) #[] #[.pointer (some ⟨q, 0, none⟩)]] (.returned (.tuple #[.string (r.sec own), .int .i64 own, .bool true])) A' := by
  intro w F h hg
  have hS : Becomes F A w w := Becomes.refl h
  have hr := Gr.refl hg
  clear h hg
  have hj := fun w => pjoin_yes r hm w
  have hsz := r.body_small
  have hn5 := numS_size5 own
  have hf := fun w => pfill r.body own w ho (by omega) (by omega)
  have hd1 : DoesG Tryd.prog A 22 #[.string (markR ++ r.body), .pointer (some ⟨q, 0, none⟩)] (.returned (.tuple #[.int .i64 own, .bool true])) A' := hd
  have hsc : padS (r.body ++ numS own) = r.sec own := rfl
  rw [hsc] at hf
  have hmk := r.mark_size
  rw [ByteArray.size_append, show markR.size = 6 from rfl] at hmk
  unfold markR at hd1
  clear hd hm hsc hn5 ho
  generalize r.sec own = SE at *
  generalize r.body = BO at *
  obtain ⟨seq, boot, prev, ⟨k, u, s, a, x, y, z, t⟩⟩ := r
  unfold Rc.val at hj ⊢
  simp only at hj ⊢
  have HJ := Lib.hid hj
  have HF := Lib.hid hf
  have HD := Lib.hid hd1
  clear hj hf hd1
  go_enter Tryd.func21, Tryd.ntmps21
  go_wp2_with (first
    | (go_at_call 40; (with_reducible refine (HJ.out _).mono ?_); rintro e w1 ⟨rfl, hb⟩; replace hS := (hS.lay hA (balloc w _)).lay hA hb; replace hr := (hr.alloc _).step hb; clear hb)
    | (go_at_call 22; (with_reducible refine (Becomes.opG HD.out hS hr.good).mono ?_); rintro e w2 ⟨rfl, hS1⟩; clear hS)
    | (go_at_call 41; (with_reducible refine (HF.out _).mono ?_); rintro e w3 ⟨rfl, hb⟩; replace hS1 := hS1.lay hA' hb; clear hb))
  go_ret3
  exact ⟨rfl, hS1⟩
set_option maxRecDepth 100000 in
set_option maxHeartbeats 8000000 in
theorem pwrite_false_put (q : Nat) (r : Rc) (own : Int) (ho : okNum own = true) (A A' : Ass) (hA : A.Good) (_ : A'.Good) (hm : r.may = true)
    (hd : DoesG Tryd.prog A 22 (#[.string (markR ++ r.body)] ++ #[.pointer (some ⟨q, 0, none⟩)]) (.returned (.tuple #[.int .i64 own, .bool false])) A') :
    DoesG Tryd.prog A 21 #[r.val, .func (.func 22) #[] #[.pointer (some ⟨q, 0, none⟩)]] (.returned (.tuple #[.string ⟨#[]⟩, .int .i64 0, .bool false])) A' := by
  intro w F h hg
  have hS : Becomes F A w w := Becomes.refl h
  have hr := Gr.refl hg
  clear h hg
  have hj := fun w => pjoin_yes r hm w
  have hsz := r.body_small
  have hn5 := numS_size5 own
  have hf := fun w => pfill r.body own w ho (by omega) (by omega)
  have hd1 : DoesG Tryd.prog A 22 #[.string (markR ++ r.body), .pointer (some ⟨q, 0, none⟩)] (.returned (.tuple #[.int .i64 own, .bool false])) A' := hd
  have hsc : padS (r.body ++ numS own) = r.sec own := rfl
  rw [hsc] at hf
  have hmk := r.mark_size
  rw [ByteArray.size_append, show markR.size = 6 from rfl] at hmk
  unfold markR at hd1
  clear hd hm hsc hn5 ho
  generalize r.sec own = SE at *
  generalize r.body = BO at *
  obtain ⟨seq, boot, prev, ⟨k, u, s, a, x, y, z, t⟩⟩ := r
  unfold Rc.val at hj ⊢
  simp only at hj ⊢
  have HJ := Lib.hid hj
  have HF := Lib.hid hf
  have HD := Lib.hid hd1
  clear hj hf hd1
  go_enter Tryd.func21, Tryd.ntmps21
  go_wp2_with (first
    | (go_at_call 40; (with_reducible refine (HJ.out _).mono ?_); rintro e w1 ⟨rfl, hb⟩; replace hS := (hS.lay hA (balloc w _)).lay hA hb; replace hr := (hr.alloc _).step hb; clear hb)
    | (go_at_call 22; (with_reducible refine (Becomes.opG HD.out hS hr.good).mono ?_); rintro e w2 ⟨rfl, hS1⟩; clear hS)
    | (go_at_call 41; (with_reducible refine (HF.out _).mono ?_); rintro e w3 ⟨rfl, hb⟩; replace hS1 := hS1.lay hA' hb; clear hb))
  go_ret3
  exact ⟨rfl, hS1⟩
set_option maxRecDepth 100000 in
set_option maxHeartbeats 8000000 in
theorem pwrite_true_get (n q : Nat) (r : Rc) (own : Int) (ho : okNum own = true) (A A' : Ass) (hA : A.Good) (hA' : A'.Good) (hm : r.may = true)
    (hd : DoesG Tryd.prog A 31 (#[.string (markR ++ r.body)] ++ #[.pointer (some ⟨n, 0, none⟩), .pointer (some ⟨q, 0, none⟩)]) (.returned (.tuple #[.int .i64 own, .bool true])) A') :
    DoesG Tryd.prog A 21 #[r.val, .func (.func 31) #[] #[.pointer (some ⟨n, 0, none⟩), .pointer (some ⟨q, 0, none⟩)]] (.returned (.tuple #[.string (r.sec own), .int .i64 own, .bool true])) A' := by
  intro w F h hg
  have hS : Becomes F A w w := Becomes.refl h
  have hr := Gr.refl hg
  clear h hg
  have hj := fun w => pjoin_yes r hm w
  have hsz := r.body_small
  have hn5 := numS_size5 own
  have hf := fun w => pfill r.body own w ho (by omega) (by omega)
  have hd1 : DoesG Tryd.prog A 31 #[.string (markR ++ r.body), .pointer (some ⟨n, 0, none⟩), .pointer (some ⟨q, 0, none⟩)] (.returned (.tuple #[.int .i64 own, .bool true])) A' := hd
  have hsc : padS (r.body ++ numS own) = r.sec own := rfl
  rw [hsc] at hf
  have hmk := r.mark_size
  rw [ByteArray.size_append, show markR.size = 6 from rfl] at hmk
  unfold markR at hd1
  clear hd hm hsc hn5 ho
  generalize r.sec own = SE at *
  generalize r.body = BO at *
  obtain ⟨seq, boot, prev, ⟨k, u, s, a, x, y, z, t⟩⟩ := r
  unfold Rc.val at hj ⊢
  simp only at hj ⊢
  have HJ := Lib.hid hj
  have HF := Lib.hid hf
  have HD := Lib.hid hd1
  clear hj hf hd1
  go_enter Tryd.func21, Tryd.ntmps21
  go_wp2_with (first
    | (go_at_call 40; (with_reducible refine (HJ.out _).mono ?_); rintro e w1 ⟨rfl, hb⟩; replace hS := (hS.lay hA (balloc w _)).lay hA hb; replace hr := (hr.alloc _).step hb; clear hb)
    | (go_at_call 31; (with_reducible refine (Becomes.opG HD.out hS hr.good).mono ?_); rintro e w2 ⟨rfl, hS1⟩; clear hS)
    | (go_at_call 41; (with_reducible refine (HF.out _).mono ?_); rintro e w3 ⟨rfl, hb⟩; replace hS1 := hS1.lay hA' hb; clear hb))
  go_ret3
  exact ⟨rfl, hS1⟩
set_option maxRecDepth 100000 in
set_option maxHeartbeats 8000000 in
theorem pwrite_false_get (n q : Nat) (r : Rc) (own : Int) (ho : okNum own = true) (A A' : Ass) (hA : A.Good) (_ : A'.Good) (hm : r.may = true)
    (hd : DoesG Tryd.prog A 31 (#[.string (markR ++ r.body)] ++ #[.pointer (some ⟨n, 0, none⟩), .pointer (some ⟨q, 0, none⟩)]) (.returned (.tuple #[.int .i64 own, .bool false])) A') :
    DoesG Tryd.prog A 21 #[r.val, .func (.func 31) #[] #[.pointer (some ⟨n, 0, none⟩), .pointer (some ⟨q, 0, none⟩)]] (.returned (.tuple #[.string ⟨#[]⟩, .int .i64 0, .bool false])) A' := by
  intro w F h hg
  have hS : Becomes F A w w := Becomes.refl h
  have hr := Gr.refl hg
  clear h hg
  have hj := fun w => pjoin_yes r hm w
  have hsz := r.body_small
  have hn5 := numS_size5 own
  have hf := fun w => pfill r.body own w ho (by omega) (by omega)
  have hd1 : DoesG Tryd.prog A 31 #[.string (markR ++ r.body), .pointer (some ⟨n, 0, none⟩), .pointer (some ⟨q, 0, none⟩)] (.returned (.tuple #[.int .i64 own, .bool false])) A' := hd
  have hsc : padS (r.body ++ numS own) = r.sec own := rfl
  rw [hsc] at hf
  have hmk := r.mark_size
  rw [ByteArray.size_append, show markR.size = 6 from rfl] at hmk
  unfold markR at hd1
  clear hd hm hsc hn5 ho
  generalize r.sec own = SE at *
  generalize r.body = BO at *
  obtain ⟨seq, boot, prev, ⟨k, u, s, a, x, y, z, t⟩⟩ := r
  unfold Rc.val at hj ⊢
  simp only at hj ⊢
  have HJ := Lib.hid hj
  have HF := Lib.hid hf
  have HD := Lib.hid hd1
  clear hj hf hd1
  go_enter Tryd.func21, Tryd.ntmps21
  go_wp2_with (first
    | (go_at_call 40; (with_reducible refine (HJ.out _).mono ?_); rintro e w1 ⟨rfl, hb⟩; replace hS := (hS.lay hA (balloc w _)).lay hA hb; replace hr := (hr.alloc _).step hb; clear hb)
    | (go_at_call 31; (with_reducible refine (Becomes.opG HD.out hS hr.good).mono ?_); rintro e w2 ⟨rfl, hS1⟩; clear hS)
    | (go_at_call 41; (with_reducible refine (HF.out _).mono ?_); rintro e w3 ⟨rfl, hb⟩; replace hS1 := hS1.lay hA' hb; clear hb))
  go_ret3
  exact ⟨rfl, hS1⟩
end Go.Proofs.YtkccbeepdgafcaaDoor

