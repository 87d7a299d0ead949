/- Package record's Get (and, imported, Put): what it answers and leaves. Conditions: the text's size, the handle of the type error. -/
import Derived.Test.YtiebpjkppjollaaDoorRcp8
import Derived.Test.YtiebpjkppjollaaDoorRcp9
import Derived.Test.YtiebpjkppjollaaDoorBpm
namespace Go.Proofs.YtiebpjkppjollaaDoor
open Go Go.RowKit

abbrev Z11 : Array Value := #[.int .i64 0, .int .i64 0, .int .i64 0, .int .i64 0, .int .i64 0, .int .i64 0, .int .i64 0, .int .i64 0, .int .i64 0, .int .i64 0, .int .i64 0]
/-- Within Get: the result's block, known; of old memory nothing turned. -/
theorem hold_below {w W : World} {c : Array Value} {t : TypeId} (hb : Below (w.alloc (.cells c t)).heap.size (w.alloc (.cells c t)) W) : Blk W w.heap.size c ∧ Below w.heap.size w W :=
  ⟨(Blk.new w c t).step hb, (balloc w _).trans (hb.mono (by simp))⟩
set_option maxRecDepth 100000 in
set_option maxHeartbeats 8000000 in
theorem pget_none (p : Nat) (most : Int) (ts : List ByteArray) (s : ByteArray) (seq prev : Int)
    (hR : ∀ w, Gd w → Calls Tryd.prog 42 #[.string s] w fun e w' => e = .returned (.tuple #[.agg Z11, .int .i64 0, .bool false]) ∧ Below w.heap.size w w') :
    ReadsG Tryd.prog (bookA p most ts) 17 #[.pointer (some ⟨p, 0, none⟩), .string s, .int .i64 seq, .int .i64 prev] (.returned (.tuple #[.agg Z11, .int .i64 0, .int .i64 900])) := by
  intro w F h hg
  have hr := (Gr.refl hg).alloc (.cells Z11 34)
  have HR := Lib.hid hR
  have HB := Lib.hid (fun W (hb : Below (w.alloc (.cells Z11 34)).heap.size (w.alloc (.cells Z11 34)) W) => hold_below hb)
  clear hR hg h
  go_enter Tryd.func17, Tryd.ntmps17
  go_wp2_with (go_at_call 42; (with_reducible refine (HR.out _ hr.good).mono ?_); rintro e w1 ⟨rfl, hb⟩; obtain ⟨k1, k2⟩ := HB.out _ hb; have e1 := k1.cell; have g1 := k1.froz; have l1 := k1.lt)
  refine bodyPost_ret (v := .tuple #[.agg Z11, .int .i64 0, .int .i64 900]) (by simp [results, Tryd.results17, go_sem, e1, l1]) rfl ⟨rfl, ?_⟩
  refine Below.alloc ?_ (by simp; omega) _
  repeat (with_reducible refine Below.setCell ?_ (by simp) _)
  with_reducible exact k2
set_option maxRecDepth 100000 in
set_option maxHeartbeats 8000000 in
theorem pget_w0 (p : Nat) (most : Int) (ts : List ByteArray) (s : ByteArray) (seq prev x1 x2 x3 k u q a x y z t own : Int)
    (hR : ∀ w, Gd w → Calls Tryd.prog 42 #[.string s] w fun e w' => e = .returned (.tuple #[.agg #[.int .i64 x1, .int .i64 x2, .int .i64 x3, .int .i64 k, .int .i64 u, .int .i64 q, .int .i64 a, .int .i64 x, .int .i64 y, .int .i64 z, .int .i64 t], .int .i64 own, .bool true]) ∧ Below w.heap.size w w')
    (hj : ∀ w, Calls Tryd.prog 34 #[.agg #[.int .i64 x1, .int .i64 x2, .int .i64 x3, .int .i64 k, .int .i64 u, .int .i64 q, .int .i64 a, .int .i64 x, .int .i64 y, .int .i64 z, .int .i64 t]] w fun e w' => e = .returned (.tuple #[.string ⟨#[]⟩, .bool false]) ∧ Below w.heap.size w w') :
    ReadsG Tryd.prog (bookA p most ts) 17 #[.pointer (some ⟨p, 0, none⟩), .string s, .int .i64 seq, .int .i64 prev] (.returned (.tuple #[.agg Z11, .int .i64 0, .int .i64 900])) := by
  intro w F h hg
  have hr := (Gr.refl hg).alloc (.cells Z11 34)
  have HR := Lib.hid hR
  have HJ := Lib.hid hj
  have HB := Lib.hid (fun W (hb : Below (w.alloc (.cells Z11 34)).heap.size (w.alloc (.cells Z11 34)) W) => hold_below hb)
  clear hR hg h hj
  go_enter Tryd.func17, Tryd.ntmps17
  go_wp2_with (first
    | (go_at_call 42; (with_reducible refine (HR.out _ hr.good).mono ?_); rintro e w1 ⟨rfl, hb⟩; obtain ⟨k1, k2⟩ := HB.out _ hb; have l1 := k1.lt; have hw1 : ¬ w.heap.size = w1.heap.size := (by omega); have hw2 : ¬ w1.heap.size = w.heap.size := (by omega); replace k1 := k1.alloc (.cells #[.int .i64 x1, .int .i64 x2, .int .i64 x3, .int .i64 k, .int .i64 u, .int .i64 q, .int .i64 a, .int .i64 x, .int .i64 y, .int .i64 z, .int .i64 t] 34); have k3 := Blk.new w1 #[.int .i64 x1, .int .i64 x2, .int .i64 x3, .int .i64 k, .int .i64 u, .int .i64 q, .int .i64 a, .int .i64 x, .int .i64 y, .int .i64 z, .int .i64 t] 34; replace k2 := k2.alloc k2.size (.cells #[.int .i64 x1, .int .i64 x2, .int .i64 x3, .int .i64 k, .int .i64 u, .int .i64 q, .int .i64 a, .int .i64 x, .int .i64 y, .int .i64 z, .int .i64 t] 34); have e1 := k1.cell; have g1 := k1.froz; have e3 := k3.cell; have g3 := k3.froz)
    | (go_at_call 34; (with_reducible refine (HJ.out _).mono ?_); rintro e w2 ⟨rfl, hb2⟩; replace k1 := k1.step hb2; replace k3 := k3.step hb2; replace k2 := bon k2 hb2; have e1 := k1.cell; have g1 := k1.froz; have l2 := k1.lt; have e3 := k3.cell; have g3 := k3.froz; clear hb2))
  refine bodyPost_ret (v := .tuple #[.agg Z11, .int .i64 0, .int .i64 900]) (by simp [results, Tryd.results17, go_sem, e1]) rfl ⟨rfl, ?_⟩
  repeat (with_reducible refine Below.setCell ?_ (by simp) _)
  with_reducible exact k2
set_option maxRecDepth 100000 in
set_option maxHeartbeats 8000000 in
theorem pget_w1 (p : Nat) (most : Int) (ts : List ByteArray) (s : ByteArray) (seq prev x1 x2 x3 k u q a x y z t own : Int) (BO : ByteArray)
    (hR : ∀ w, Gd w → Calls Tryd.prog 42 #[.string s] w fun e w' => e = .returned (.tuple #[.agg #[.int .i64 x1, .int .i64 x2, .int .i64 x3, .int .i64 k, .int .i64 u, .int .i64 q, .int .i64 a, .int .i64 x, .int .i64 y, .int .i64 z, .int .i64 t], .int .i64 own, .bool true]) ∧ Below w.heap.size w w')
    (hj : ∀ w, Calls Tryd.prog 34 #[.agg #[.int .i64 x1, .int .i64 x2, .int .i64 x3, .int .i64 k, .int .i64 u, .int .i64 q, .int .i64 a, .int .i64 x, .int .i64 y, .int .i64 z, .int .i64 t]] w fun e w' => e = .returned (.tuple #[.string BO, .bool true]) ∧ Below w.heap.size w w')
    (hi : Reads Tryd.prog (bookA p most ts) 43 #[.pointer (some ⟨p, 0, none⟩), .string s, .string ⟨#[114, 101, 99, 111, 114, 100]⟩, .string BO, .int .i64 own] (.returned (.bool false))) :
    ReadsG Tryd.prog (bookA p most ts) 17 #[.pointer (some ⟨p, 0, none⟩), .string s, .int .i64 seq, .int .i64 prev] (.returned (.tuple #[.agg Z11, .int .i64 0, .int .i64 900])) := by
  intro w F h hg
  have hr := (Gr.refl hg).alloc (.cells Z11 34)
  have HR := Lib.hid hR
  have HJ := Lib.hid hj
  have HI := Lib.hid (fun W (hb : Below w.heap.size w W) => hi W F ((bookA_good _ _ _).below h hb))
  have HB := Lib.hid (fun W (hb : Below (w.alloc (.cells Z11 34)).heap.size (w.alloc (.cells Z11 34)) W) => hold_below hb)
  clear hR hg h hj hi
  go_enter Tryd.func17, Tryd.ntmps17
  go_wp2_with (first
    | (go_at_call 42; (with_reducible refine (HR.out _ hr.good).mono ?_); rintro e w1 ⟨rfl, hb⟩; obtain ⟨k1, k2⟩ := HB.out _ hb; have l1 := k1.lt; have hw1 : ¬ w.heap.size = w1.heap.size := (by omega); have hw2 : ¬ w1.heap.size = w.heap.size := (by omega); replace k1 := k1.alloc (.cells #[.int .i64 x1, .int .i64 x2, .int .i64 x3, .int .i64 k, .int .i64 u, .int .i64 q, .int .i64 a, .int .i64 x, .int .i64 y, .int .i64 z, .int .i64 t] 34); have k3 := Blk.new w1 #[.int .i64 x1, .int .i64 x2, .int .i64 x3, .int .i64 k, .int .i64 u, .int .i64 q, .int .i64 a, .int .i64 x, .int .i64 y, .int .i64 z, .int .i64 t] 34; replace k2 := k2.alloc k2.size (.cells #[.int .i64 x1, .int .i64 x2, .int .i64 x3, .int .i64 k, .int .i64 u, .int .i64 q, .int .i64 a, .int .i64 x, .int .i64 y, .int .i64 z, .int .i64 t] 34); have e1 := k1.cell; have g1 := k1.froz; have e3 := k3.cell; have g3 := k3.froz)
    | (go_at_call 34; (with_reducible refine (HJ.out _).mono ?_); rintro e w2 ⟨rfl, hb2⟩; replace k1 := k1.step hb2; replace k3 := k3.step hb2; replace k2 := bon k2 hb2; have e1 := k1.cell; have g1 := k1.froz; have l2 := k1.lt; have e3 := k3.cell; have g3 := k3.froz; clear hb2)
    | (go_at_call 43; (with_reducible refine (HI.out _ k2).mono ?_); rintro e w3 ⟨rfl, hb3⟩; replace k1 := k1.step hb3; replace k3 := k3.step hb3; replace k2 := bon k2 hb3; have e1 := k1.cell; have g1 := k1.froz; have l2 := k1.lt; have e3 := k3.cell; have g3 := k3.froz; clear hb3))
  refine bodyPost_ret (v := .tuple #[.agg Z11, .int .i64 0, .int .i64 900]) (by simp [results, Tryd.results17, go_sem, e1]) rfl ⟨rfl, ?_⟩
  repeat (with_reducible refine Below.setCell ?_ (by simp) _)
  with_reducible exact k2
set_option maxRecDepth 100000 in
set_option maxHeartbeats 8000000 in
theorem pget_w2 (p : Nat) (most : Int) (ts : List ByteArray) (s : ByteArray) (seq prev x1 x2 x3 k u q a x y z t own : Int) (BO : ByteArray) (hne : x1 ≠ seq)
    (hR : ∀ w, Gd w → Calls Tryd.prog 42 #[.string s] w fun e w' => e = .returned (.tuple #[.agg #[.int .i64 x1, .int .i64 x2, .int .i64 x3, .int .i64 k, .int .i64 u, .int .i64 q, .int .i64 a, .int .i64 x, .int .i64 y, .int .i64 z, .int .i64 t], .int .i64 own, .bool true]) ∧ Below w.heap.size w w')
    (hj : ∀ w, Calls Tryd.prog 34 #[.agg #[.int .i64 x1, .int .i64 x2, .int .i64 x3, .int .i64 k, .int .i64 u, .int .i64 q, .int .i64 a, .int .i64 x, .int .i64 y, .int .i64 z, .int .i64 t]] w fun e w' => e = .returned (.tuple #[.string BO, .bool true]) ∧ Below w.heap.size w w')
    (hi : Reads Tryd.prog (bookA p most ts) 43 #[.pointer (some ⟨p, 0, none⟩), .string s, .string ⟨#[114, 101, 99, 111, 114, 100]⟩, .string BO, .int .i64 own] (.returned (.bool true))) :
    ReadsG Tryd.prog (bookA p most ts) 17 #[.pointer (some ⟨p, 0, none⟩), .string s, .int .i64 seq, .int .i64 prev] (.returned (.tuple #[.agg Z11, .int .i64 0, .int .i64 901])) := by
  intro w F h hg
  have c1 : (x1 != seq) = true := by simpa using hne
  have c2 : (x1 == seq) = false := by simpa using hne
  have hr := (Gr.refl hg).alloc (.cells Z11 34)
  have HR := Lib.hid hR
  have HJ := Lib.hid hj
  have HI := Lib.hid (fun W (hb : Below w.heap.size w W) => hi W F ((bookA_good _ _ _).below h hb))
  have HB := Lib.hid (fun W (hb : Below (w.alloc (.cells Z11 34)).heap.size (w.alloc (.cells Z11 34)) W) => hold_below hb)
  clear hR hg h hj hi
  go_enter Tryd.func17, Tryd.ntmps17
  go_wp2_with (first
    | (go_at_call 42; (with_reducible refine (HR.out _ hr.good).mono ?_); rintro e w1 ⟨rfl, hb⟩; obtain ⟨k1, k2⟩ := HB.out _ hb; have l1 := k1.lt; have hw1 : ¬ w.heap.size = w1.heap.size := (by omega); have hw2 : ¬ w1.heap.size = w.heap.size := (by omega); replace k1 := k1.alloc (.cells #[.int .i64 x1, .int .i64 x2, .int .i64 x3, .int .i64 k, .int .i64 u, .int .i64 q, .int .i64 a, .int .i64 x, .int .i64 y, .int .i64 z, .int .i64 t] 34); have k3 := Blk.new w1 #[.int .i64 x1, .int .i64 x2, .int .i64 x3, .int .i64 k, .int .i64 u, .int .i64 q, .int .i64 a, .int .i64 x, .int .i64 y, .int .i64 z, .int .i64 t] 34; replace k2 := k2.alloc k2.size (.cells #[.int .i64 x1, .int .i64 x2, .int .i64 x3, .int .i64 k, .int .i64 u, .int .i64 q, .int .i64 a, .int .i64 x, .int .i64 y, .int .i64 z, .int .i64 t] 34); have e1 := k1.cell; have g1 := k1.froz; have e3 := k3.cell; have g3 := k3.froz)
    | (go_at_call 34; (with_reducible refine (HJ.out _).mono ?_); rintro e w2 ⟨rfl, hb2⟩; replace k1 := k1.step hb2; replace k3 := k3.step hb2; replace k2 := bon k2 hb2; have e1 := k1.cell; have g1 := k1.froz; have l2 := k1.lt; have e3 := k3.cell; have g3 := k3.froz; clear hb2)
    | (go_at_call 43; (with_reducible refine (HI.out _ k2).mono ?_); rintro e w3 ⟨rfl, hb3⟩; replace k1 := k1.step hb3; replace k3 := k3.step hb3; replace k2 := bon k2 hb3; have e1 := k1.cell; have g1 := k1.froz; have l2 := k1.lt; have e3 := k3.cell; have g3 := k3.froz; clear hb3))
  refine bodyPost_ret (v := .tuple #[.agg Z11, .int .i64 0, .int .i64 901]) (by simp [results, Tryd.results17, go_sem, e1]) rfl ⟨rfl, ?_⟩
  repeat (with_reducible refine Below.setCell ?_ (by simp) _)
  with_reducible exact k2
set_option maxRecDepth 100000 in
set_option maxHeartbeats 8000000 in
theorem pget_w3 (p : Nat) (most : Int) (ts : List ByteArray) (s : ByteArray) (seq prev x2 x3 k u q a x y z t own : Int) (BO : ByteArray) (hne : x3 ≠ prev)
    (hR : ∀ w, Gd w → Calls Tryd.prog 42 #[.string s] w fun e w' => e = .returned (.tuple #[.agg #[.int .i64 seq, .int .i64 x2, .int .i64 x3, .int .i64 k, .int .i64 u, .int .i64 q, .int .i64 a, .int .i64 x, .int .i64 y, .int .i64 z, .int .i64 t], .int .i64 own, .bool true]) ∧ Below w.heap.size w w')
    (hj : ∀ w, Calls Tryd.prog 34 #[.agg #[.int .i64 seq, .int .i64 x2, .int .i64 x3, .int .i64 k, .int .i64 u, .int .i64 q, .int .i64 a, .int .i64 x, .int .i64 y, .int .i64 z, .int .i64 t]] w fun e w' => e = .returned (.tuple #[.string BO, .bool true]) ∧ Below w.heap.size w w')
    (hi : Reads Tryd.prog (bookA p most ts) 43 #[.pointer (some ⟨p, 0, none⟩), .string s, .string ⟨#[114, 101, 99, 111, 114, 100]⟩, .string BO, .int .i64 own] (.returned (.bool true))) :
    ReadsG Tryd.prog (bookA p most ts) 17 #[.pointer (some ⟨p, 0, none⟩), .string s, .int .i64 seq, .int .i64 prev] (.returned (.tuple #[.agg Z11, .int .i64 0, .int .i64 901])) := by
  intro w F h hg
  have c1 : (x3 != prev) = true := by simpa using hne
  have c2 : (x3 == prev) = false := by simpa using hne
  have hr := (Gr.refl hg).alloc (.cells Z11 34)
  have HR := Lib.hid hR
  have HJ := Lib.hid hj
  have HI := Lib.hid (fun W (hb : Below w.heap.size w W) => hi W F ((bookA_good _ _ _).below h hb))
  have HB := Lib.hid (fun W (hb : Below (w.alloc (.cells Z11 34)).heap.size (w.alloc (.cells Z11 34)) W) => hold_below hb)
  clear hR hg h hj hi
  go_enter Tryd.func17, Tryd.ntmps17
  go_wp2_with (first
    | (go_at_call 42; (with_reducible refine (HR.out _ hr.good).mono ?_); rintro e w1 ⟨rfl, hb⟩; obtain ⟨k1, k2⟩ := HB.out _ hb; have l1 := k1.lt; have hw1 : ¬ w.heap.size = w1.heap.size := (by omega); have hw2 : ¬ w1.heap.size = w.heap.size := (by omega); replace k1 := k1.alloc (.cells #[.int .i64 seq, .int .i64 x2, .int .i64 x3, .int .i64 k, .int .i64 u, .int .i64 q, .int .i64 a, .int .i64 x, .int .i64 y, .int .i64 z, .int .i64 t] 34); have k3 := Blk.new w1 #[.int .i64 seq, .int .i64 x2, .int .i64 x3, .int .i64 k, .int .i64 u, .int .i64 q, .int .i64 a, .int .i64 x, .int .i64 y, .int .i64 z, .int .i64 t] 34; replace k2 := k2.alloc k2.size (.cells #[.int .i64 seq, .int .i64 x2, .int .i64 x3, .int .i64 k, .int .i64 u, .int .i64 q, .int .i64 a, .int .i64 x, .int .i64 y, .int .i64 z, .int .i64 t] 34); have e1 := k1.cell; have g1 := k1.froz; have e3 := k3.cell; have g3 := k3.froz)
    | (go_at_call 34; (with_reducible refine (HJ.out _).mono ?_); rintro e w2 ⟨rfl, hb2⟩; replace k1 := k1.step hb2; replace k3 := k3.step hb2; replace k2 := bon k2 hb2; have e1 := k1.cell; have g1 := k1.froz; have l2 := k1.lt; have e3 := k3.cell; have g3 := k3.froz; clear hb2)
    | (go_at_call 43; (with_reducible refine (HI.out _ k2).mono ?_); rintro e w3 ⟨rfl, hb3⟩; replace k1 := k1.step hb3; replace k3 := k3.step hb3; replace k2 := bon k2 hb3; have e1 := k1.cell; have g1 := k1.froz; have l2 := k1.lt; have e3 := k3.cell; have g3 := k3.froz; clear hb3))
  refine bodyPost_ret (v := .tuple #[.agg Z11, .int .i64 0, .int .i64 901]) (by simp [results, Tryd.results17, go_sem, e1]) rfl ⟨rfl, ?_⟩
  repeat (with_reducible refine Below.setCell ?_ (by simp) _)
  with_reducible exact k2
set_option maxRecDepth 100000 in
set_option maxHeartbeats 8000000 in
theorem pget_w4 (p : Nat) (most : Int) (ts : List ByteArray) (s : ByteArray) (seq prev x2 k u q a x y z t own : Int) (BO : ByteArray)
    (hR : ∀ w, Gd w → Calls Tryd.prog 42 #[.string s] w fun e w' => e = .returned (.tuple #[.agg #[.int .i64 seq, .int .i64 x2, .int .i64 prev, .int .i64 k, .int .i64 u, .int .i64 q, .int .i64 a, .int .i64 x, .int .i64 y, .int .i64 z, .int .i64 t], .int .i64 own, .bool true]) ∧ Below w.heap.size w w')
    (hj : ∀ w, Calls Tryd.prog 34 #[.agg #[.int .i64 seq, .int .i64 x2, .int .i64 prev, .int .i64 k, .int .i64 u, .int .i64 q, .int .i64 a, .int .i64 x, .int .i64 y, .int .i64 z, .int .i64 t]] w fun e w' => e = .returned (.tuple #[.string BO, .bool true]) ∧ Below w.heap.size w w')
    (hi : Reads Tryd.prog (bookA p most ts) 43 #[.pointer (some ⟨p, 0, none⟩), .string s, .string ⟨#[114, 101, 99, 111, 114, 100]⟩, .string BO, .int .i64 own] (.returned (.bool true))) :
    ReadsG Tryd.prog (bookA p most ts) 17 #[.pointer (some ⟨p, 0, none⟩), .string s, .int .i64 seq, .int .i64 prev] (.returned (.tuple #[.agg #[.int .i64 seq, .int .i64 x2, .int .i64 prev, .int .i64 k, .int .i64 u, .int .i64 q, .int .i64 a, .int .i64 x, .int .i64 y, .int .i64 z, .int .i64 t], .int .i64 own, .int .i64 0])) := by
  intro w F h hg
  have hr := (Gr.refl hg).alloc (.cells Z11 34)
  have HR := Lib.hid hR
  have HJ := Lib.hid hj
  have HI := Lib.hid (fun W (hb : Below w.heap.size w W) => hi W F ((bookA_good _ _ _).below h hb))
  have HB := Lib.hid (fun W (hb : Below (w.alloc (.cells Z11 34)).heap.size (w.alloc (.cells Z11 34)) W) => hold_below hb)
  clear hR hg h hj hi
  go_enter Tryd.func17, Tryd.ntmps17
  go_wp2_with (first
    | (go_at_call 42; (with_reducible refine (HR.out _ hr.good).mono ?_); rintro e w1 ⟨rfl, hb⟩; obtain ⟨k1, k2⟩ := HB.out _ hb; have l1 := k1.lt; have hw1 : ¬ w.heap.size = w1.heap.size := (by omega); have hw2 : ¬ w1.heap.size = w.heap.size := (by omega); replace k1 := k1.alloc (.cells #[.int .i64 seq, .int .i64 x2, .int .i64 prev, .int .i64 k, .int .i64 u, .int .i64 q, .int .i64 a, .int .i64 x, .int .i64 y, .int .i64 z, .int .i64 t] 34); have k3 := Blk.new w1 #[.int .i64 seq, .int .i64 x2, .int .i64 prev, .int .i64 k, .int .i64 u, .int .i64 q, .int .i64 a, .int .i64 x, .int .i64 y, .int .i64 z, .int .i64 t] 34; replace k2 := k2.alloc k2.size (.cells #[.int .i64 seq, .int .i64 x2, .int .i64 prev, .int .i64 k, .int .i64 u, .int .i64 q, .int .i64 a, .int .i64 x, .int .i64 y, .int .i64 z, .int .i64 t] 34); have e1 := k1.cell; have g1 := k1.froz; have e3 := k3.cell; have g3 := k3.froz)
    | (go_at_call 34; (with_reducible refine (HJ.out _).mono ?_); rintro e w2 ⟨rfl, hb2⟩; replace k1 := k1.step hb2; replace k3 := k3.step hb2; replace k2 := bon k2 hb2; have e1 := k1.cell; have g1 := k1.froz; have l2 := k1.lt; have e3 := k3.cell; have g3 := k3.froz; clear hb2)
    | (go_at_call 43; (with_reducible refine (HI.out _ k2).mono ?_); rintro e w3 ⟨rfl, hb3⟩; replace k1 := k1.step hb3; replace k3 := k3.step hb3; replace k2 := bon k2 hb3; have e1 := k1.cell; have g1 := k1.froz; have l2 := k1.lt; have e3 := k3.cell; have g3 := k3.froz; clear hb3))
  refine bodyPost_ret (v := .tuple #[.agg #[.int .i64 seq, .int .i64 x2, .int .i64 prev, .int .i64 k, .int .i64 u, .int .i64 q, .int .i64 a, .int .i64 x, .int .i64 y, .int .i64 z, .int .i64 t], .int .i64 own, .int .i64 0]) (by simp [results, Tryd.results17, go_sem, e1]) rfl ⟨rfl, ?_⟩
  repeat (with_reducible refine Below.setCell ?_ (by simp) _)
  with_reducible exact k2
end Go.Proofs.YtiebpjkppjollaaDoor
