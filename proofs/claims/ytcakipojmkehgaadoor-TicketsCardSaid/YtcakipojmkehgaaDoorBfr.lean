/- Put together: Frefnum, Rnums, Rget. Conditions: each theorem's own. -/
import Derived.Test.YtcakipojmkehgaaDoorFnum
import Derived.Test.YtcakipojmkehgaaDoorBfp
namespace Go.Proofs.YtcakipojmkehgaaDoor
open Go.RowKit

theorem app1s {w0 W : World} {ops : Array Oper} {rest : List Oper} {o : Oper} {a : Act} {Q : Exit → Act → World → Prop} (hgd : o.guard = none) (s x : Operand)
    (ho : o.op = .call { callee := .builtin .append, args := #[s, x], argTypes := #[96, 96] })
    (base : Nat) (v : Value) (n m : Nat) (l : List Int) (c : Int) (hm : n + 1 = m) (hs : a.eval s = v) (hx : a.eval x = .slice (some ⟨W.heap.size, 0, none⟩) 1 1)
    (hown : W.ownsRow base 5 1 v n (l.map (Value.int .u8))) (hn : n ≤ 140737488300000) (hbase : base ≤ W.heap.size) (hbel : Below base w0 W)
    (h : ∀ g cap w', w'.ownsRow base 5 1 (.slice (some ⟨g, 0, none⟩) m cap) m ((l ++ [c]).map (Value.int .u8)) → Below base w0 w' → base ≤ w'.heap.size → wpList Tryd.prog ops Q rest (a.put o.dst (.slice (some ⟨g, 0, none⟩) m cap)) w') :
    wpList Tryd.prog ops Q (o :: rest) a (W.alloc (.cells #[.int .u8 c] 5)) := by
  subst hm
  refine app1 hgd s x ho base v n (l.map (Value.int .u8)) c hs hx hown hn hbase hbel fun v' w' h1 h2 h3 => ?_
  rcases h1.2 with ⟨_, h0⟩ | ⟨g, cap, cur, rfl, _⟩
  · omega
  · exact h g cap w' (by simpa using h1) h2 h3

/-- A byte as a text. -/
def oneB (c : Int) : ByteArray := ⟨#[UInt8.ofNat c.toNat]⟩
theorem conv_one (W : World) (c : Int) (w1 : World) (h : w1.cell? ⟨W.heap.size, 0, none⟩ = some (.int .u8 c)) :
    (convert 96 9 (.slice (some ⟨W.heap.size, 0, none⟩) 1 1)).run Tryd.prog w1 = .ok (.string (oneB c)) w1 := by
  rw [run_convert_bytes_string w1 96 9 5 _ _ _ Tryd.underlying96 Tryd.underlying5 Tryd.underlying9]
  have hld := run_loadCells_list (P := Tryd.prog) (w := w1) ⟨W.heap.size, 0, none⟩ ([c].map (Value.int .u8)) (by
    intro j v hj
    match j, hj with
    | 0, hj => simp at hj; subst hj; simpa [Addr.add] using h)
  rw [run_bytesToString w1 _ 1 1 [c] (by simpa using hld), foldl_push_bytes]
  simp [oneB]

theorem ownsRow_below {w w' : World} {base : Nat} {v : Value} {n : Nat} {xs : List Value} (h : w.ownsRow base 5 1 v n xs) (hb : Below w.heap.size w w') : w'.ownsRow base 5 1 v n xs := by
  refine ⟨h.1, ?_⟩
  rcases h.2 with hn | ⟨g, cap, cur, rfl, hbg, hg, rest⟩
  · exact .inl hn
  · refine .inr ⟨g, cap, cur, rfl, hbg, ?_, rest⟩
    rw [hb.block g (Array.getElem?_eq_some_iff.1 hg).1]; exact hg

theorem rnum0 (x : Int) (w : World) : Calls Tryd.prog 44 #[.int .i64 x] w fun e w' => e = .returned (.bool (okNum x)) ∧ w' = w := by
  by_cases h0 : 0 ≤ x
  · by_cases h1 : x ≤ 1073741823
    · have e : okNum x = true := (okNum_iff x).2 ⟨h0, h1⟩
      rw [e]; clear e
      go_enter Tryd.func44, Tryd.ntmps44
      go_wp2
      go_ret
      exact ⟨rfl, rfl⟩
    · have e : okNum x = false := by rw [Bool.eq_false_iff, Ne, okNum_iff]; omega
      rw [e]; clear e
      have h1' : 1073741823 < x := by omega
      go_enter Tryd.func44, Tryd.ntmps44
      go_wp2
      go_ret
      exact ⟨rfl, rfl⟩
  · have e : okNum x = false := by rw [Bool.eq_false_iff, Ne, okNum_iff]; omega
    rw [e]; clear e
    have h0' : x < 0 := by omega
    go_enter Tryd.func44, Tryd.ntmps44
    go_wp2
    go_ret
    exact ⟨rfl, rfl⟩

theorem numB_cat (c : Int) (l : List Int) : (⟨#[UInt8.ofNat c.toNat]⟩ : ByteArray) ++ ⟨(bytesOf l).toArray⟩ = ⟨(bytesOf (c :: l)).toArray⟩ := by
  apply ByteArray.ext; simp [bytesOf]


theorem rnum1 (x : Int) (h0 : 0 ≤ x) (h1 : x ≤ 1073741823) (w : World) : Calls Tryd.prog 44 #[.int .i64 x] w fun e w' => e = .returned (.bool true) ∧ w' = w := by
  have := rnum0 x w
  rwa [(okNum_iff x).2 ⟨h0, h1⟩] at this


theorem conv_one1 (W : World) (c : Int) : (convert 96 9 (.slice (some ⟨W.heap.size, 0, none⟩) 1 1)).run Tryd.prog (W.alloc (.cells #[.int .u8 c] 5)) = .ok (.string (oneB c)) (W.alloc (.cells #[.int .u8 c] 5)) :=
  conv_one W c _ (by simp)
/-- The bytes of l as a text. -/
def numOf (l : List Int) : ByteArray := ⟨(bytesOf l).toArray⟩
theorem conv_own' {w : World} {base : Nat} (n : Nat) {v : Value} {l : List Int} (h : w.ownsRow base 5 1 v n (l.map (Value.int .u8))) :
    (convert 96 9 v).run Tryd.prog w = .ok (.string (numOf l)) w := conv_own h
theorem numOf_size (l : List Int) : (numOf l).size = l.length := by rw [numOf, Lib.size_eq]; simp [bytesOf]
theorem numOf_size' {l : List Int} {n : Nat} (h : l.length = n) : (numOf l).size = n := by rw [numOf_size, h]
theorem _root_.Go.World.ownsRow.len1 {w : World} {base : Nat} {n : Nat} {v : Value} {l : List Int} (h : w.ownsRow base 5 1 v n (l.map (Value.int .u8))) : l.length = n := by have := h.1; simpa using this
theorem cat1 {n : Int} {x0 y0 : Int} (h0 : x0 = y0) : n :: (([] : List Int) ++ [x0]) = [n, y0] := by subst_vars; rfl
theorem cat2 {n : Int} {x0 y0 : Int} (h0 : x0 = y0) {x1 y1 : Int} (h1 : x1 = y1) : n :: (([] : List Int) ++ [x0] ++ [x1]) = [n, y0, y1] := by subst_vars; rfl
theorem cat3 {n : Int} {x0 y0 : Int} (h0 : x0 = y0) {x1 y1 : Int} (h1 : x1 = y1) {x2 y2 : Int} (h2 : x2 = y2) : n :: (([] : List Int) ++ [x0] ++ [x1] ++ [x2]) = [n, y0, y1, y2] := by subst_vars; rfl
theorem cat4 {n : Int} {x0 y0 : Int} (h0 : x0 = y0) {x1 y1 : Int} (h1 : x1 = y1) {x2 y2 : Int} (h2 : x2 = y2) {x3 y3 : Int} (h3 : x3 = y3) : n :: (([] : List Int) ++ [x0] ++ [x1] ++ [x2] ++ [x3]) = [n, y0, y1, y2, y3] := by subst_vars; rfl
theorem ret_s2 {a b : ByteArray} {v : Value} (h : a = b) : Ending.returned (.tuple #[.string a, v]) = .returned (.tuple #[.string b, v]) := by rw [h]
theorem numB_cat' (c : Int) (l : List Int) : oneB c ++ numOf l = numOf (c :: l) := numB_cat c l

set_option maxRecDepth 100000 in
set_option maxHeartbeats 8000000 in
theorem rnum_4 (x : Int) (B : Nat) (w : World) (hbase : B ≤ w.heap.size) (h0 : 16777216 ≤ x) (h1 : x ≤ 1073741823) :
    Calls Tryd.prog 34 #[.int .i64 x] w fun e w' => e = .returned (.tuple #[.string (numOf [4, x / 16777216, x / 65536 % 256, x / 256 % 256, x % 256]), .int .i64 0]) ∧ Below B w w' := by
  have hown : w.ownsRow B 5 1 (.slice none 0 0) 0 (([] : List Int).map (Value.int .u8)) := World.ownsRow_nil _ _ _ _
  have hbel := Below.refl B w
  have ho := conv_one1
  go_enter Tryd.func34, Tryd.ntmps34
  go_wp2_with (go_at_call 44; refine (rnum1 x (by omega) (by omega) _).mono ?_; rintro e w' ⟨rfl, rfl⟩)
  refine wp_loop_rounds 5 ?_
  all_goals
    rw [rounds_succ]
    go_wp2_with (at_builtin; refine app1s rfl _ _ rfl B _ 0 1 _ _ rfl rfl rfl (by assumption) (by omega) (by assumption) (by assumption) ?_; intro g cap w1 h1 h2 h3)
  all_goals
    rw [rounds_succ]
    go_wp2_with (at_builtin; refine app1s rfl _ _ rfl B _ 1 2 _ _ rfl rfl rfl (by assumption) (by omega) (by assumption) (by assumption) ?_; intro g cap w1 h1 h2 h3)
  all_goals
    rw [rounds_succ]
    go_wp2_with (at_builtin; refine app1s rfl _ _ rfl B _ 2 3 _ _ rfl rfl rfl (by assumption) (by omega) (by assumption) (by assumption) ?_; intro g cap w1 h1 h2 h3)
  all_goals
    rw [rounds_succ]
    go_wp2_with (at_builtin; refine app1s rfl _ _ rfl B _ 3 4 _ _ rfl rfl rfl (by assumption) (by omega) (by assumption) (by assumption) ?_; intro g cap w1 h1 h2 h3)
  all_goals
    have hcv := conv_own' 4 (h1.alloc (.cells #[.int .u8 4] 5))
    have hs1 : (oneB 4).size = 1 := rfl
    have hs2 := numOf_size' (h1.len1)
    rw [rounds_succ]
    go_wp2_with fail
    go_ret2
    exact ⟨ret_s2 ((numB_cat' _ _).trans (congrArg numOf (cat4 (by omega) (by omega) (by omega) (by omega)))), h2.alloc h3 _⟩

set_option maxRecDepth 100000 in
set_option maxHeartbeats 8000000 in
theorem rnum_3 (x : Int) (B : Nat) (w : World) (hbase : B ≤ w.heap.size) (h0 : 65536 ≤ x) (h1 : x < 16777216) :
    Calls Tryd.prog 34 #[.int .i64 x] w fun e w' => e = .returned (.tuple #[.string (numOf [3, x / 65536, x / 256 % 256, x % 256]), .int .i64 0]) ∧ Below B w w' := by
  have hown : w.ownsRow B 5 1 (.slice none 0 0) 0 (([] : List Int).map (Value.int .u8)) := World.ownsRow_nil _ _ _ _
  have hbel := Below.refl B w
  have ho := conv_one1
  go_enter Tryd.func34, Tryd.ntmps34
  go_wp2_with (go_at_call 44; refine (rnum1 x (by omega) (by omega) _).mono ?_; rintro e w' ⟨rfl, rfl⟩)
  refine wp_loop_rounds 5 ?_
  rw [rounds_succ]
  go_wp2_with fail
  all_goals
    rw [rounds_succ]
    go_wp2_with (at_builtin; refine app1s rfl _ _ rfl B _ 0 1 _ _ rfl rfl rfl (by assumption) (by omega) (by assumption) (by assumption) ?_; intro g cap w1 h1 h2 h3)
  all_goals
    rw [rounds_succ]
    go_wp2_with (at_builtin; refine app1s rfl _ _ rfl B _ 1 2 _ _ rfl rfl rfl (by assumption) (by omega) (by assumption) (by assumption) ?_; intro g cap w1 h1 h2 h3)
  all_goals
    rw [rounds_succ]
    go_wp2_with (at_builtin; refine app1s rfl _ _ rfl B _ 2 3 _ _ rfl rfl rfl (by assumption) (by omega) (by assumption) (by assumption) ?_; intro g cap w1 h1 h2 h3)
  all_goals
    have hcv := conv_own' 3 (h1.alloc (.cells #[.int .u8 3] 5))
    have hs1 : (oneB 3).size = 1 := rfl
    have hs2 := numOf_size' (h1.len1)
    rw [rounds_succ]
    go_wp2_with fail
    go_ret2
    exact ⟨ret_s2 ((numB_cat' _ _).trans (congrArg numOf (cat3 (by omega) (by omega) (by omega)))), h2.alloc h3 _⟩

set_option maxRecDepth 100000 in
set_option maxHeartbeats 8000000 in
theorem rnum_2 (x : Int) (B : Nat) (w : World) (hbase : B ≤ w.heap.size) (h0 : 256 ≤ x) (h1 : x < 65536) :
    Calls Tryd.prog 34 #[.int .i64 x] w fun e w' => e = .returned (.tuple #[.string (numOf [2, x / 256, x % 256]), .int .i64 0]) ∧ Below B w w' := by
  have hown : w.ownsRow B 5 1 (.slice none 0 0) 0 (([] : List Int).map (Value.int .u8)) := World.ownsRow_nil _ _ _ _
  have hbel := Below.refl B w
  have ho := conv_one1
  go_enter Tryd.func34, Tryd.ntmps34
  go_wp2_with (go_at_call 44; refine (rnum1 x (by omega) (by omega) _).mono ?_; rintro e w' ⟨rfl, rfl⟩)
  refine wp_loop_rounds 5 ?_
  rw [rounds_succ]
  go_wp2_with fail
  rw [rounds_succ]
  go_wp2_with fail
  all_goals
    rw [rounds_succ]
    go_wp2_with (at_builtin; refine app1s rfl _ _ rfl B _ 0 1 _ _ rfl rfl rfl (by assumption) (by omega) (by assumption) (by assumption) ?_; intro g cap w1 h1 h2 h3)
  all_goals
    rw [rounds_succ]
    go_wp2_with (at_builtin; refine app1s rfl _ _ rfl B _ 1 2 _ _ rfl rfl rfl (by assumption) (by omega) (by assumption) (by assumption) ?_; intro g cap w1 h1 h2 h3)
  all_goals
    have hcv := conv_own' 2 (h1.alloc (.cells #[.int .u8 2] 5))
    have hs1 : (oneB 2).size = 1 := rfl
    have hs2 := numOf_size' (h1.len1)
    rw [rounds_succ]
    go_wp2_with fail
    go_ret2
    exact ⟨ret_s2 ((numB_cat' _ _).trans (congrArg numOf (cat2 (by omega) (by omega)))), h2.alloc h3 _⟩

set_option maxRecDepth 100000 in
set_option maxHeartbeats 8000000 in
theorem rnum_1 (x : Int) (B : Nat) (w : World) (hbase : B ≤ w.heap.size) (h0 : 1 ≤ x) (h1 : x < 256) :
    Calls Tryd.prog 34 #[.int .i64 x] w fun e w' => e = .returned (.tuple #[.string (numOf [1, x]), .int .i64 0]) ∧ Below B w w' := by
  have hown : w.ownsRow B 5 1 (.slice none 0 0) 0 (([] : List Int).map (Value.int .u8)) := World.ownsRow_nil _ _ _ _
  have hbel := Below.refl B w
  have ho := conv_one1
  go_enter Tryd.func34, Tryd.ntmps34
  go_wp2_with (go_at_call 44; refine (rnum1 x (by omega) (by omega) _).mono ?_; rintro e w' ⟨rfl, rfl⟩)
  refine wp_loop_rounds 5 ?_
  rw [rounds_succ]
  go_wp2_with fail
  rw [rounds_succ]
  go_wp2_with fail
  rw [rounds_succ]
  go_wp2_with fail
  all_goals
    rw [rounds_succ]
    go_wp2_with (at_builtin; refine app1s rfl _ _ rfl B _ 0 1 _ _ rfl rfl rfl (by assumption) (by omega) (by assumption) (by assumption) ?_; intro g cap w1 h1 h2 h3)
  all_goals
    have hcv := conv_own' 1 (h1.alloc (.cells #[.int .u8 1] 5))
    have hs1 : (oneB 1).size = 1 := rfl
    have hs2 := numOf_size' (h1.len1)
    rw [rounds_succ]
    go_wp2_with fail
    go_ret2
    exact ⟨ret_s2 ((numB_cat' _ _).trans (congrArg numOf (cat1 (by omega)))), h2.alloc h3 _⟩

set_option maxRecDepth 100000 in
set_option maxHeartbeats 8000000 in
theorem rnum_0 (x : Int) (B : Nat) (w : World) (hbase : B ≤ w.heap.size) (h0 : 0 ≤ x) (h1 : x ≤ 0) :
    Calls Tryd.prog 34 #[.int .i64 x] w fun e w' => e = .returned (.tuple #[.string (numOf [0]), .int .i64 0]) ∧ Below B w w' := by
  have hown : w.ownsRow B 5 1 (.slice none 0 0) 0 (([] : List Int).map (Value.int .u8)) := World.ownsRow_nil _ _ _ _
  have hbel := Below.refl B w
  have ho := conv_one1
  go_enter Tryd.func34, Tryd.ntmps34
  go_wp2_with (go_at_call 44; refine (rnum1 x (by omega) (by omega) _).mono ?_; rintro e w' ⟨rfl, rfl⟩)
  refine wp_loop_rounds 5 ?_
  rw [rounds_succ]
  go_wp2_with fail
  rw [rounds_succ]
  go_wp2_with fail
  rw [rounds_succ]
  go_wp2_with fail
  rw [rounds_succ]
  go_wp2_with fail
  all_goals
    have hcv := conv_nil
    rw [rounds_succ]
    go_wp2_with fail
    go_ret2
    exact ⟨ret_s2 rfl, hbel.alloc hbase _⟩

/-- The reference's Num. -/
theorem rnum (x : Int) (w : World) (hx0 : -9223372036854775808 ≤ x) (hx1 : x ≤ 9223372036854775807) :
    Calls Tryd.prog 34 #[.int .i64 x] w fun e w' => e = .returned (.tuple #[.string (numS x), .int .i64 (numE x)]) ∧ Below w.heap.size w w' := by
  by_cases h : 0 ≤ x ∧ x ≤ 1073741823
  · obtain ⟨h0, h1⟩ := h
    rw [numS_ok h0 h1, numE_ok h0 h1, numB]
    unfold numL
    split
    · exact rnum_0 x _ w (Nat.le_refl _) h0 (by omega)
    split
    · exact rnum_1 x _ w (Nat.le_refl _) (by omega) (by omega)
    split
    · exact rnum_2 x _ w (Nat.le_refl _) (by omega) (by omega)
    split
    · exact rnum_3 x _ w (Nat.le_refl _) (by omega) (by omega)
    · exact rnum_4 x _ w (Nat.le_refl _) (by omega) (by omega)
  · have hok : okNum x = false := by rw [Bool.eq_false_iff, Ne, okNum_iff]; exact h
    have hr := rnum0 x
    rw [hok] at hr
    rw [numS_bad (by omega), numE_bad (by omega)]
    clear h hok
    have Hr := Lib.hid hr
    clear hr
    go_enter Tryd.func34, Tryd.ntmps34
    go_wp2_with (go_at_call 44; refine (Hr.out _).mono ?_; rintro e w' ⟨rfl, rfl⟩)
    go_ret2
    exact ⟨rfl, Below.refl _ _⟩
end Go.Proofs.YtcakipojmkehgaaDoor

namespace Go.Proofs.YtcakipojmkehgaaDoor
open Go.RowKit

/-- Numbers one behind the other. -/
def numsB : List Int → ByteArray
  | [] => ⟨#[]⟩
  | x :: r => numS x ++ numsB r
theorem ba_nil (a : ByteArray) : a ++ (⟨#[]⟩ : ByteArray) = a := by apply ByteArray.ext; simp [ByteArray.data_append]
theorem nil_ba (a : ByteArray) : (⟨#[]⟩ : ByteArray) ++ a = a := by apply ByteArray.ext; simp [ByteArray.data_append]
theorem ba_assoc (a b c : ByteArray) : (a ++ b) ++ c = a ++ (b ++ c) := by apply ByteArray.ext; simp [ByteArray.data_append]
theorem numsB_snoc (l : List Int) (x : Int) : numsB (l ++ [x]) = numsB l ++ numS x := by
  induction l with
  | nil => simp only [List.nil_append, numsB]; rw [nil_ba, ba_nil]
  | cons y l ih => simp only [List.cons_append, numsB]; rw [ih, ba_assoc]
theorem numB_size (x : Int) : (numB x).size = (numL x).length := by rw [numB, Lib.size_eq]; simp [bytesOf]
theorem numS_size (x : Int) : (numS x).size ≤ 5 := by
  unfold numS
  split
  · rw [numB_size]; exact (numL_len x).2
  · exact Nat.zero_le _
theorem numsB_size (l : List Int) : (numsB l).size ≤ 5 * l.length := by
  induction l with
  | nil => simp [numsB, ByteArray.size]
  | cons x l ih => have := numS_size x; rw [numsB, ByteArray.size_append, List.length_cons]; omega
theorem numsB_take (l : List Int) (k : Nat) (h : k < l.length) : numsB (l.take (k + 1)) = numsB (l.take k) ++ numS (l.getD k 0) := by
  rw [List.take_succ_eq_append_getElem h, numsB_snoc, List.getD_eq_getElem?_getD, List.getElem?_eq_getElem h]; rfl

theorem ret_str {a b : ByteArray} (h : a = b) : Ending.returned (.string a) = .returned (.string b) := by rw [h]
set_option maxRecDepth 100000 in
set_option maxHeartbeats 4000000 in
/-- The reference's Nums. -/
theorem rnums (zs : List Int) (b n : Nat) (w : World) (hn : zs.length = n) (hl : n ≤ 1000) (hc : ∀ j, j < n → w.cell? ⟨b, j, none⟩ = some (.int .i64 (zs.getD j 0)))
    (hz : ∀ j, j < n → -9223372036854775808 ≤ zs.getD j 0 ∧ zs.getD j 0 ≤ 9223372036854775807) (hb : b < w.heap.size) :
    Calls Tryd.prog 18 #[.slice (some ⟨b, 0, none⟩) n n] w fun e w' => e = .returned (.string (numsB zs)) ∧ Below w.heap.size w w' := by
  have HN := Lib.hid hn
  have HC := Lib.hid hc
  have HZ := Lib.hid hz
  clear hc hz hn
  go_enter Tryd.func18, Tryd.ntmps18
  go_wp2
  go_loopw [3, 4] (fun s i wr => ∃ k : Nat, k ≤ n ∧ i = .int .i64 k ∧ s = .string (numsB (zs.take k)) ∧ Below w.heap.size w wr) (fun _ i _ => n - (intOf i).toNat)
  case atStart => exact ⟨0, Nat.zero_le _, rfl, rfl, Below.refl _ _⟩
  case round =>
    obtain ⟨k, hk, rfl, rfl, hbel⟩ := hrel
    have hs1 := numsB_size (zs.take k)
    have hs2 := numS_size (zs.getD k 0)
    have hs3 : (numsB (zs.take k)).size ≤ 5000 := by rw [List.length_take, HN.out] at hs1; omega
    clear hs1
    by_cases hlt : k < n
    · have hcell := (hbel.cell (p := ⟨b, k, none⟩) hb).trans (HC.out k hlt)
      obtain ⟨hz0, hz1⟩ := HZ.out k hlt
      have HT := Lib.hid (numsB_take zs k (by rw [HN.out]; exact hlt))
      obtain ⟨x, hx⟩ : ∃ x, zs.getD k 0 = x := ⟨_, rfl⟩
      rw [hx] at hcell hz0 hz1 HT hs2
      clear hx
      go_wp2_with (go_at_call 34; refine (rnum x _ hz0 hz1).mono ?_; rintro e w2 ⟨rfl, hb2⟩)
      go_roundw
      case rel => exact ⟨k + 1, by omega, by go_num, by rw [HT.out], hbel.trans (hb2.mono hbel.size)⟩
      case measure => simp [intOf]; omega
    · obtain rfl : k = n := by omega
      have HT : Hid (numsB (zs.take k) = numsB zs) := by rw [List.take_of_length_le (by rw [HN.out]; omega)]; rfl
      go_wp2
      go_ret
      first | exact ⟨rfl, hbel⟩ | exact ⟨ret_str HT.out, hbel⟩

theorem numsB_one (x : Int) : numsB [x] = numS x := ba_nil _
end Go.Proofs.YtcakipojmkehgaaDoor

namespace Go.Proofs.YtcakipojmkehgaaDoor
open Go.RowKit

theorem ret_iii {x y a b c d : Int} (h : x = y) (h2 : a = b) (h3 : c = d) : Ending.returned (.tuple #[.int .i64 x, .int .i64 a, .int .i64 c]) = .returned (.tuple #[.int .i64 y, .int .i64 b, .int .i64 d]) := by rw [h, h2, h3]
set_option maxRecDepth 100000 in
set_option maxHeartbeats 4000000 in
theorem rget_in (s : ByteArray) (k : Nat) (w : World) (hs : s.size ≤ 9223372036854770000) (hk : k < s.size) (h4 : gb s k ≤ 4) (hc : k + 1 + gb s k ≤ s.size) :
    Calls Tryd.prog 62 #[.string s, .int .i64 k] w fun e w' => e = .returned (.tuple #[.int .i64 (getX s k), .int .i64 (getTo s k), .int .i64 (getE s k)]) ∧ w' = w := by
  have hg0 : ∀ h : k < s.size, (s[k]'h).toNat = gb s k := gb_get s k
  have hg1 : ∀ h : k + 1 < s.size, (s[k + 1]'h).toNat = gb s (k + 1) := gb_get s (k + 1)
  go_enter Tryd.func62, Tryd.ntmps62
  go_wp2
  go_loop [8, 9] (fun x i => ∃ m : Nat, m ≤ gb s k ∧ i = .int .i64 ((m : Int) + 1) ∧ x = .int .i64 (valL (piece s (k + 1) (k + 1 + m)))) (fun _ i => gb s k + 1 - (intOf i).toNat)
  case atStart => exact ⟨0, Nat.zero_le _, by go_num, by rw [Nat.add_zero, val_piece_self]⟩
  case round =>
    obtain ⟨m, hm, rfl, rfl⟩ := hrel
    by_cases hlt : m < gb s k
    · have hl := valL_bd3 (piece s (k + 1) (k + 1 + m)) (by rw [piece_len _ _ _ (by omega)]; omega)
      obtain ⟨hl0, hl1⟩ := hl
      have hv := gb_lt s (k + 1 + m)
      have hgm : ∀ h : k + 1 + m < s.size, (s[k + 1 + m]'h).toNat = gb s (k + 1 + m) := gb_get s (k + 1 + m)
      have hgm2 : ∀ h : k + (m + 1) < s.size, (s[k + (m + 1)]'h).toNat = gb s (k + 1 + m) := fun h => by rw [gb_get]; congr 1; omega
      have hgm3 : ∀ h : ((k : Int) + ((m : Int) + 1)).toNat < s.size, (s[((k : Int) + ((m : Int) + 1)).toNat]'h).toNat = gb s (k + 1 + m) := fun h => by rw [gb_get]; congr 1; omega
      have hor : bits .or .i64 (valL (piece s (k + 1) (k + 1 + m)) * 256) (gb s (k + 1 + m) : Int) = valL (piece s (k + 1) (k + 1 + m)) * 256 + (gb s (k + 1 + m) : Int) := i64_or8 _ _ hl0 hl1 (by omega) (by omega)
      have HX : Hid (valL (piece s (k + 1) (k + 1 + (m + 1))) = valL (piece s (k + 1) (k + 1 + m)) * 256 + (gb s (k + 1 + m) : Int)) := val_piece s (k + 1) (k + 1 + m) (by omega) (by omega)
      go_wp2
      go_round
      case rel => exact ⟨m + 1, by omega, by go_num, by rw [HX.out]⟩
      case measure => simp [intOf]; omega
    · obtain rfl : m = gb s k := by omega
      obtain ⟨hl0, hl1⟩ := valL_bd4 (piece s (k + 1) (k + 1 + gb s k)) (by rw [piece_len _ _ _ (by omega)]; omega)
      have hv := gb_lt s k
      by_cases hz : 0 < gb s k ∧ gb s (k + 1) = 0
      · have HE := Lib.hid (getE_bad hk h4 hc (.inl hz))
        obtain ⟨hz0, hz1⟩ := hz
        clear hlt hm
        go_wp2
        go_ret3
        exact ⟨ret_iii (getX_ne (by rw [HE.out]; decide)).symm (getTo_ne (by rw [HE.out]; decide)).symm HE.out.symm, rfl⟩
      · by_cases hx : 1073741823 < valL (piece s (k + 1) (k + 1 + gb s k))
        · have HE := Lib.hid (getE_bad hk h4 hc (.inr hx))
          have hn' : 0 < gb s k := by
            rcases Nat.eq_zero_or_pos (gb s k) with e | e
            · rw [e, Nat.add_zero, val_piece_self] at hx; omega
            · exact e
          have hz1 : 0 < gb s (k + 1) := Nat.pos_of_ne_zero fun e => hz ⟨hn', e⟩
          have hz2 : (((gb s (k + 1) : Nat) : Int) == 0) = false := by rw [beq_eq_false_iff_ne]; omega
          clear hz hlt hm
          go_wp2
          go_ret3
          exact ⟨ret_iii (getX_ne (by rw [HE.out]; decide)).symm (getTo_ne (by rw [HE.out]; decide)).symm HE.out.symm, rfl⟩
        · have he := getE_ok hk h4 hc (fun h => h.elim hz hx)
          have HE := Lib.hid he
          have hx' : valL (piece s (k + 1) (k + 1 + gb s k)) ≤ 1073741823 := by omega
          clear he hx
          by_cases hn : gb s k = 0
          · have hz3 : valL (piece s (k + 1) (k + 1 + gb s k)) = 0 := by rw [hn, Nat.add_zero]; exact val_piece_self _ _
            have HX0 := Lib.hid hz3
            rw [hz3]
            clear hz hlt hm hg1 hl0 hl1 hx' hz3
            go_wp2
            go_ret3
            exact ⟨ret_iii ((getX_ok HE.out).trans HX0.out).symm (by rw [getTo_ok HE.out]; omega) HE.out.symm, rfl⟩
          · have hn' : 0 < gb s k := by omega
            have hz1 : 0 < gb s (k + 1) := Nat.pos_of_ne_zero fun e => hz ⟨hn', e⟩
            have hz2 : (((gb s (k + 1) : Nat) : Int) == 0) = false := by rw [beq_eq_false_iff_ne]; omega
            clear hz hlt hm hn
            go_wp2
            go_ret3
            exact ⟨ret_iii (getX_ok HE.out).symm (by rw [getTo_ok HE.out]; omega) HE.out.symm, rfl⟩

set_option maxRecDepth 100000 in
set_option maxHeartbeats 4000000 in
/-- The reference's GetNum. -/
theorem rget (s : ByteArray) (a : Int) (w : World) (hs : s.size ≤ 9223372036854770000) (ha0 : -9223372036854775808 ≤ a) (ha1 : a ≤ 9223372036854775807) :
    Calls Tryd.prog 62 #[.string s, .int .i64 a] w fun e w' => e = .returned (.tuple #[.int .i64 (getX s a), .int .i64 (getTo s a), .int .i64 (getE s a)]) ∧ w' = w := by
  by_cases h0 : a < 0
  · have h := getE_neg (s := s) h0
    rw [getX_ne (by rw [h]; decide), getTo_ne (by rw [h]; decide), h]
    clear h
    go_enter Tryd.func62, Tryd.ntmps62
    go_wp2
    go_ret3
    exact ⟨rfl, rfl⟩
  by_cases h1 : (s.size : Int) < a
  · have h := getE_far h1
    rw [getX_ne (by rw [h]; decide), getTo_ne (by rw [h]; decide), h]
    have h0' : 0 ≤ a := by omega
    clear h h0
    go_enter Tryd.func62, Tryd.ntmps62
    go_wp2
    go_ret3
    exact ⟨rfl, rfl⟩
  by_cases h2 : a = s.size
  · have h := getE_end h2
    rw [getX_ne (by rw [h]; decide), getTo_ne (by rw [h]; decide), h]
    subst h2
    clear h h0 h1
    go_enter Tryd.func62, Tryd.ntmps62
    go_wp2
    go_ret3
    exact ⟨rfl, rfl⟩
  obtain ⟨k, rfl⟩ : ∃ k : Nat, a = k := ⟨a.toNat, by omega⟩
  have hk : k < s.size := by omega
  have hg0 : ∀ h : k < s.size, (s[k]'h).toNat = gb s k := gb_get s k
  have hv := gb_lt s k
  clear h0 h1 h2 ha0 ha1
  by_cases h4 : 4 < gb s k
  · have h := getE_big hk h4
    rw [getX_ne (by rw [h]; decide), getTo_ne (by rw [h]; decide), h]
    clear h
    go_enter Tryd.func62, Tryd.ntmps62
    go_wp2
    go_ret3
    exact ⟨rfl, rfl⟩
  have h4' : gb s k ≤ 4 := by omega
  by_cases hc : s.size < k + 1 + gb s k
  · have h := getE_cut hk h4' hc
    rw [getX_ne (by rw [h]; decide), getTo_ne (by rw [h]; decide), h]
    clear h h4 hv
    go_enter Tryd.func62, Tryd.ntmps62
    go_wp2
    go_ret3
    exact ⟨rfl, rfl⟩
  · exact rget_in s k w hs hk h4' (by omega)
end Go.Proofs.YtcakipojmkehgaaDoor

