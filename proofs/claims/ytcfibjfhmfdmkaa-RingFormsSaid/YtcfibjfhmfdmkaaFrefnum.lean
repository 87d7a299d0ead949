/- The reference's Num answers the same bytes as field.Num. No condition. -/
import Derived.Test.YtcfibjfhmfdmkaaFnum
namespace Go.Proofs.Ytcfibjfhmfdmkaa
open Go.RowKit

theorem app1s {w0 W : World} {ops : Array Oper} {rest : List Oper} {o : Oper} {a : Act} {Q : Exit → Act → World → Prop} (hgd : o.guard = none) (s x : Operand)
    (ho : o.op = .call { callee := .builtin .append, args := #[s, x], argTypes := #[60, 60] })
    (base : Nat) (v : Value) (n m : Nat) (l : List Int) (c : Int) (hm : n + 1 = m) (hs : a.eval s = v) (hx : a.eval x = .slice (some ⟨W.heap.size, 0, none⟩) 1 1)
    (hown : W.ownsRow base 5 1 v n (l.map (Value.int .u8))) (hn : n ≤ 140737488300000) (hbase : base ≤ W.heap.size) (hbel : Below base w0 W)
    (h : ∀ g cap w', w'.ownsRow base 5 1 (.slice (some ⟨g, 0, none⟩) m cap) m ((l ++ [c]).map (Value.int .u8)) → Below base w0 w' → base ≤ w'.heap.size → wpList Try.prog ops Q rest (a.put o.dst (.slice (some ⟨g, 0, none⟩) m cap)) w') :
    wpList Try.prog ops Q (o :: rest) a (W.alloc (.cells #[.int .u8 c] 5)) := by
  subst hm
  refine app1 hgd s x ho base v n (l.map (Value.int .u8)) c hs hx hown hn hbase hbel fun v' w' h1 h2 h3 => ?_
  rcases h1.2 with ⟨_, h0⟩ | ⟨g, cap, cur, rfl, _⟩
  · omega
  · exact h g cap w' (by simpa using h1) h2 h3

/-- A byte as a text. -/
def oneB (c : Int) : ByteArray := ⟨#[UInt8.ofNat c.toNat]⟩
theorem conv_one (W : World) (c : Int) (w1 : World) (h : w1.cell? ⟨W.heap.size, 0, none⟩ = some (.int .u8 c)) :
    (convert 60 9 (.slice (some ⟨W.heap.size, 0, none⟩) 1 1)).run Try.prog w1 = .ok (.string (oneB c)) w1 := by
  rw [run_convert_bytes_string w1 60 9 5 _ _ _ Try.underlying60 Try.underlying5 Try.underlying9]
  have hld := run_loadCells_list (P := Try.prog) (w := w1) ⟨W.heap.size, 0, none⟩ ([c].map (Value.int .u8)) (by
    intro j v hj
    match j, hj with
    | 0, hj => simp at hj; subst hj; simpa [Addr.add] using h)
  rw [run_bytesToString w1 _ 1 1 [c] (by simpa using hld), foldl_push_bytes]
  simp [oneB]

theorem ownsRow_below {w w' : World} {base : Nat} {v : Value} {n : Nat} {xs : List Value} (h : w.ownsRow base 5 1 v n xs) (hb : Below w.heap.size w w') : w'.ownsRow base 5 1 v n xs := by
  refine ⟨h.1, ?_⟩
  rcases h.2 with hn | ⟨g, cap, cur, rfl, hbg, hg, rest⟩
  · exact .inl hn
  · refine .inr ⟨g, cap, cur, rfl, hbg, ?_, rest⟩
    rw [hb.block g (Array.getElem?_eq_some_iff.1 hg).1]; exact hg

theorem rnum0 (x : Int) (w : World) : Calls Try.prog 34 #[.int .i64 x] w fun e w' => e = .returned (.bool (okNum x)) ∧ w' = w := by
  by_cases h0 : 0 ≤ x
  · by_cases h1 : x ≤ 1073741823
    · have e : okNum x = true := (okNum_iff x).2 ⟨h0, h1⟩
      rw [e]; clear e
      go_enter Try.func34, Try.ntmps34
      go_wp2
      go_ret
      exact ⟨rfl, rfl⟩
    · have e : okNum x = false := by rw [Bool.eq_false_iff, Ne, okNum_iff]; omega
      rw [e]; clear e
      have h1' : 1073741823 < x := by omega
      go_enter Try.func34, Try.ntmps34
      go_wp2
      go_ret
      exact ⟨rfl, rfl⟩
  · have e : okNum x = false := by rw [Bool.eq_false_iff, Ne, okNum_iff]; omega
    rw [e]; clear e
    have h0' : x < 0 := by omega
    go_enter Try.func34, Try.ntmps34
    go_wp2
    go_ret
    exact ⟨rfl, rfl⟩

theorem numB_cat (c : Int) (l : List Int) : (⟨#[UInt8.ofNat c.toNat]⟩ : ByteArray) ++ ⟨(bytesOf l).toArray⟩ = ⟨(bytesOf (c :: l)).toArray⟩ := by
  apply ByteArray.ext; simp [bytesOf]


theorem rnum1 (x : Int) (h0 : 0 ≤ x) (h1 : x ≤ 1073741823) (w : World) : Calls Try.prog 34 #[.int .i64 x] w fun e w' => e = .returned (.bool true) ∧ w' = w := by
  have := rnum0 x w
  rwa [(okNum_iff x).2 ⟨h0, h1⟩] at this


theorem conv_one1 (W : World) (c : Int) : (convert 60 9 (.slice (some ⟨W.heap.size, 0, none⟩) 1 1)).run Try.prog (W.alloc (.cells #[.int .u8 c] 5)) = .ok (.string (oneB c)) (W.alloc (.cells #[.int .u8 c] 5)) :=
  conv_one W c _ (by simp)
/-- The bytes of l as a text. -/
def numOf (l : List Int) : ByteArray := ⟨(bytesOf l).toArray⟩
theorem conv_own' {w : World} {base : Nat} (n : Nat) {v : Value} {l : List Int} (h : w.ownsRow base 5 1 v n (l.map (Value.int .u8))) :
    (convert 60 9 v).run Try.prog w = .ok (.string (numOf l)) w := conv_own h
theorem numOf_size (l : List Int) : (numOf l).size = l.length := by rw [numOf, Lib.size_eq]; simp [bytesOf]
theorem numOf_size' {l : List Int} {n : Nat} (h : l.length = n) : (numOf l).size = n := by rw [numOf_size, h]
theorem _root_.Go.World.ownsRow.len1 {w : World} {base : Nat} {n : Nat} {v : Value} {l : List Int} (h : w.ownsRow base 5 1 v n (l.map (Value.int .u8))) : l.length = n := by have := h.1; simpa using this
theorem cat1 {n : Int} {x0 y0 : Int} (h0 : x0 = y0) : n :: (([] : List Int) ++ [x0]) = [n, y0] := by subst_vars; rfl
theorem cat2 {n : Int} {x0 y0 : Int} (h0 : x0 = y0) {x1 y1 : Int} (h1 : x1 = y1) : n :: (([] : List Int) ++ [x0] ++ [x1]) = [n, y0, y1] := by subst_vars; rfl
theorem cat3 {n : Int} {x0 y0 : Int} (h0 : x0 = y0) {x1 y1 : Int} (h1 : x1 = y1) {x2 y2 : Int} (h2 : x2 = y2) : n :: (([] : List Int) ++ [x0] ++ [x1] ++ [x2]) = [n, y0, y1, y2] := by subst_vars; rfl
theorem cat4 {n : Int} {x0 y0 : Int} (h0 : x0 = y0) {x1 y1 : Int} (h1 : x1 = y1) {x2 y2 : Int} (h2 : x2 = y2) {x3 y3 : Int} (h3 : x3 = y3) : n :: (([] : List Int) ++ [x0] ++ [x1] ++ [x2] ++ [x3]) = [n, y0, y1, y2, y3] := by subst_vars; rfl
theorem ret_s2 {a b : ByteArray} {v : Value} (h : a = b) : Ending.returned (.tuple #[.string a, v]) = .returned (.tuple #[.string b, v]) := by rw [h]
theorem numB_cat' (c : Int) (l : List Int) : oneB c ++ numOf l = numOf (c :: l) := numB_cat c l

set_option maxRecDepth 100000 in
set_option maxHeartbeats 8000000 in
theorem rnum_4 (x : Int) (B : Nat) (w : World) (hbase : B ≤ w.heap.size) (h0 : 16777216 ≤ x) (h1 : x ≤ 1073741823) :
    Calls Try.prog 30 #[.int .i64 x] w fun e w' => e = .returned (.tuple #[.string (numOf [4, x / 16777216, x / 65536 % 256, x / 256 % 256, x % 256]), .int .i64 0]) ∧ Below B w w' := by
  have hown : w.ownsRow B 5 1 (.slice none 0 0) 0 (([] : List Int).map (Value.int .u8)) := World.ownsRow_nil _ _ _ _
  have hbel := Below.refl B w
  have ho := conv_one1
  go_enter Try.func30, Try.ntmps30
  go_wp2_with (go_at_call 34; refine (rnum1 x (by omega) (by omega) _).mono ?_; rintro e w' ⟨rfl, rfl⟩)
  refine wp_loop_rounds 5 ?_
  all_goals
    rw [rounds_succ]
    go_wp2_with (at_builtin; refine app1s rfl _ _ rfl B _ 0 1 _ _ rfl rfl rfl (by assumption) (by omega) (by assumption) (by assumption) ?_; intro g cap w1 h1 h2 h3)
  all_goals
    rw [rounds_succ]
    go_wp2_with (at_builtin; refine app1s rfl _ _ rfl B _ 1 2 _ _ rfl rfl rfl (by assumption) (by omega) (by assumption) (by assumption) ?_; intro g cap w1 h1 h2 h3)
  all_goals
    rw [rounds_succ]
    go_wp2_with (at_builtin; refine app1s rfl _ _ rfl B _ 2 3 _ _ rfl rfl rfl (by assumption) (by omega) (by assumption) (by assumption) ?_; intro g cap w1 h1 h2 h3)
  all_goals
    rw [rounds_succ]
    go_wp2_with (at_builtin; refine app1s rfl _ _ rfl B _ 3 4 _ _ rfl rfl rfl (by assumption) (by omega) (by assumption) (by assumption) ?_; intro g cap w1 h1 h2 h3)
  all_goals
    have hcv := conv_own' 4 (h1.alloc (.cells #[.int .u8 4] 5))
    have hs1 : (oneB 4).size = 1 := rfl
    have hs2 := numOf_size' (h1.len1)
    rw [rounds_succ]
    go_wp2_with fail
    go_ret2
    exact ⟨ret_s2 ((numB_cat' _ _).trans (congrArg numOf (cat4 (by omega) (by omega) (by omega) (by omega)))), h2.alloc h3 _⟩

set_option maxRecDepth 100000 in
set_option maxHeartbeats 8000000 in
theorem rnum_3 (x : Int) (B : Nat) (w : World) (hbase : B ≤ w.heap.size) (h0 : 65536 ≤ x) (h1 : x < 16777216) :
    Calls Try.prog 30 #[.int .i64 x] w fun e w' => e = .returned (.tuple #[.string (numOf [3, x / 65536, x / 256 % 256, x % 256]), .int .i64 0]) ∧ Below B w w' := by
  have hown : w.ownsRow B 5 1 (.slice none 0 0) 0 (([] : List Int).map (Value.int .u8)) := World.ownsRow_nil _ _ _ _
  have hbel := Below.refl B w
  have ho := conv_one1
  go_enter Try.func30, Try.ntmps30
  go_wp2_with (go_at_call 34; refine (rnum1 x (by omega) (by omega) _).mono ?_; rintro e w' ⟨rfl, rfl⟩)
  refine wp_loop_rounds 5 ?_
  rw [rounds_succ]
  go_wp2_with fail
  all_goals
    rw [rounds_succ]
    go_wp2_with (at_builtin; refine app1s rfl _ _ rfl B _ 0 1 _ _ rfl rfl rfl (by assumption) (by omega) (by assumption) (by assumption) ?_; intro g cap w1 h1 h2 h3)
  all_goals
    rw [rounds_succ]
    go_wp2_with (at_builtin; refine app1s rfl _ _ rfl B _ 1 2 _ _ rfl rfl rfl (by assumption) (by omega) (by assumption) (by assumption) ?_; intro g cap w1 h1 h2 h3)
  all_goals
    rw [rounds_succ]
    go_wp2_with (at_builtin; refine app1s rfl _ _ rfl B _ 2 3 _ _ rfl rfl rfl (by assumption) (by omega) (by assumption) (by assumption) ?_; intro g cap w1 h1 h2 h3)
  all_goals
    have hcv := conv_own' 3 (h1.alloc (.cells #[.int .u8 3] 5))
    have hs1 : (oneB 3).size = 1 := rfl
    have hs2 := numOf_size' (h1.len1)
    rw [rounds_succ]
    go_wp2_with fail
    go_ret2
    exact ⟨ret_s2 ((numB_cat' _ _).trans (congrArg numOf (cat3 (by omega) (by omega) (by omega)))), h2.alloc h3 _⟩

set_option maxRecDepth 100000 in
set_option maxHeartbeats 8000000 in
theorem rnum_2 (x : Int) (B : Nat) (w : World) (hbase : B ≤ w.heap.size) (h0 : 256 ≤ x) (h1 : x < 65536) :
    Calls Try.prog 30 #[.int .i64 x] w fun e w' => e = .returned (.tuple #[.string (numOf [2, x / 256, x % 256]), .int .i64 0]) ∧ Below B w w' := by
  have hown : w.ownsRow B 5 1 (.slice none 0 0) 0 (([] : List Int).map (Value.int .u8)) := World.ownsRow_nil _ _ _ _
  have hbel := Below.refl B w
  have ho := conv_one1
  go_enter Try.func30, Try.ntmps30
  go_wp2_with (go_at_call 34; refine (rnum1 x (by omega) (by omega) _).mono ?_; rintro e w' ⟨rfl, rfl⟩)
  refine wp_loop_rounds 5 ?_
  rw [rounds_succ]
  go_wp2_with fail
  rw [rounds_succ]
  go_wp2_with fail
  all_goals
    rw [rounds_succ]
    go_wp2_with (at_builtin; refine app1s rfl _ _ rfl B _ 0 1 _ _ rfl rfl rfl (by assumption) (by omega) (by assumption) (by assumption) ?_; intro g cap w1 h1 h2 h3)
  all_goals
    rw [rounds_succ]
    go_wp2_with (at_builtin; refine app1s rfl _ _ rfl B _ 1 2 _ _ rfl rfl rfl (by assumption) (by omega) (by assumption) (by assumption) ?_; intro g cap w1 h1 h2 h3)
  all_goals
    have hcv := conv_own' 2 (h1.alloc (.cells #[.int .u8 2] 5))
    have hs1 : (oneB 2).size = 1 := rfl
    have hs2 := numOf_size' (h1.len1)
    rw [rounds_succ]
    go_wp2_with fail
    go_ret2
    exact ⟨ret_s2 ((numB_cat' _ _).trans (congrArg numOf (cat2 (by omega) (by omega)))), h2.alloc h3 _⟩

set_option maxRecDepth 100000 in
set_option maxHeartbeats 8000000 in
theorem rnum_1 (x : Int) (B : Nat) (w : World) (hbase : B ≤ w.heap.size) (h0 : 1 ≤ x) (h1 : x < 256) :
    Calls Try.prog 30 #[.int .i64 x] w fun e w' => e = .returned (.tuple #[.string (numOf [1, x]), .int .i64 0]) ∧ Below B w w' := by
  have hown : w.ownsRow B 5 1 (.slice none 0 0) 0 (([] : List Int).map (Value.int .u8)) := World.ownsRow_nil _ _ _ _
  have hbel := Below.refl B w
  have ho := conv_one1
  go_enter Try.func30, Try.ntmps30
  go_wp2_with (go_at_call 34; refine (rnum1 x (by omega) (by omega) _).mono ?_; rintro e w' ⟨rfl, rfl⟩)
  refine wp_loop_rounds 5 ?_
  rw [rounds_succ]
  go_wp2_with fail
  rw [rounds_succ]
  go_wp2_with fail
  rw [rounds_succ]
  go_wp2_with fail
  all_goals
    rw [rounds_succ]
    go_wp2_with (at_builtin; refine app1s rfl _ _ rfl B _ 0 1 _ _ rfl rfl rfl (by assumption) (by omega) (by assumption) (by assumption) ?_; intro g cap w1 h1 h2 h3)
  all_goals
    have hcv := conv_own' 1 (h1.alloc (.cells #[.int .u8 1] 5))
    have hs1 : (oneB 1).size = 1 := rfl
    have hs2 := numOf_size' (h1.len1)
    rw [rounds_succ]
    go_wp2_with fail
    go_ret2
    exact ⟨ret_s2 ((numB_cat' _ _).trans (congrArg numOf (cat1 (by omega)))), h2.alloc h3 _⟩

set_option maxRecDepth 100000 in
set_option maxHeartbeats 8000000 in
theorem rnum_0 (x : Int) (B : Nat) (w : World) (hbase : B ≤ w.heap.size) (h0 : 0 ≤ x) (h1 : x ≤ 0) :
    Calls Try.prog 30 #[.int .i64 x] w fun e w' => e = .returned (.tuple #[.string (numOf [0]), .int .i64 0]) ∧ Below B w w' := by
  have hown : w.ownsRow B 5 1 (.slice none 0 0) 0 (([] : List Int).map (Value.int .u8)) := World.ownsRow_nil _ _ _ _
  have hbel := Below.refl B w
  have ho := conv_one1
  go_enter Try.func30, Try.ntmps30
  go_wp2_with (go_at_call 34; refine (rnum1 x (by omega) (by omega) _).mono ?_; rintro e w' ⟨rfl, rfl⟩)
  refine wp_loop_rounds 5 ?_
  rw [rounds_succ]
  go_wp2_with fail
  rw [rounds_succ]
  go_wp2_with fail
  rw [rounds_succ]
  go_wp2_with fail
  rw [rounds_succ]
  go_wp2_with fail
  all_goals
    have hcv := conv_nil
    rw [rounds_succ]
    go_wp2_with fail
    go_ret2
    exact ⟨ret_s2 rfl, hbel.alloc hbase _⟩

/-- The reference's Num. -/
theorem rnum (x : Int) (w : World) (hx0 : -9223372036854775808 ≤ x) (hx1 : x ≤ 9223372036854775807) :
    Calls Try.prog 30 #[.int .i64 x] w fun e w' => e = .returned (.tuple #[.string (numS x), .int .i64 (numE x)]) ∧ Below w.heap.size w w' := by
  by_cases h : 0 ≤ x ∧ x ≤ 1073741823
  · obtain ⟨h0, h1⟩ := h
    rw [numS_ok h0 h1, numE_ok h0 h1, numB]
    unfold numL
    split
    · exact rnum_0 x _ w (Nat.le_refl _) h0 (by omega)
    split
    · exact rnum_1 x _ w (Nat.le_refl _) (by omega) (by omega)
    split
    · exact rnum_2 x _ w (Nat.le_refl _) (by omega) (by omega)
    split
    · exact rnum_3 x _ w (Nat.le_refl _) (by omega) (by omega)
    · exact rnum_4 x _ w (Nat.le_refl _) (by omega) (by omega)
  · have hok : okNum x = false := by rw [Bool.eq_false_iff, Ne, okNum_iff]; exact h
    have hr := rnum0 x
    rw [hok] at hr
    rw [numS_bad (by omega), numE_bad (by omega)]
    clear h hok
    have Hr := Lib.hid hr
    clear hr
    go_enter Try.func30, Try.ntmps30
    go_wp2_with (go_at_call 34; refine (Hr.out _).mono ?_; rintro e w' ⟨rfl, rfl⟩)
    go_ret2
    exact ⟨rfl, Below.refl _ _⟩
end Go.Proofs.Ytcfibjfhmfdmkaa
