/- The reference's PutSuper: what it answers and leaves. Condition: not a million terms. -/
import Derived.Test.YtiebpjkppjollaaDoorBdz
import Derived.Test.YtiebpjkppjollaaDoorBbk
import Derived.Test.YtiebpjkppjollaaDoorBfr
import Derived.Test.YtiebpjkppjollaaDoorBme
import Derived.Test.YtiebpjkppjollaaDoorBrk
import Derived.Test.YtiebpjkppjollaaDoorSup2
namespace Go.Proofs.YtiebpjkppjollaaDoor
open Go Go.RowKit

theorem rsectorS (s : ByteArray) (w : World) (h : s.size ≤ 64) : Calls Tryd.prog 41 #[.string s] w fun e w' => e = .returned (.string (padS s)) ∧ Below w.heap.size w w' := by
  obtain ⟨k, hk, hkn⟩ : ∃ k : Nat, (64 : Int) - (s.size : Int) = (k : Int) ∧ k = 64 - s.size := ⟨64 - s.size, by omega, rfl⟩
  have hmk := zk_made k (by omega)
  have hcv := zk_conv k (by omega)
  have hz : (zerN k).size = k := zerN_size k
  have h1 : ¬ 9223372036854775807 < s.size + k := by omega
  unfold padS
  rw [← hkn]
  clear hkn
  go_enter Tryd.func41, Tryd.ntmps41
  go_wp2
  go_ret
  exact ⟨rfl, (Below.refl _ _).alloc (Nat.le_refl _) _⟩
set_option maxRecDepth 100000 in
set_option maxHeartbeats 4000000 in
theorem drsput_no (p : Nat) (most : Int) (ts : List ByteArray) (b : Int) (hm : suMay b = false) : Does Tryd.prog (refA p most ts) 25 #[.pointer (some ⟨p, 0, none⟩), .int .i64 b] (.returned (.tuple #[.string ⟨#[]⟩, .int .i64 1000])) (refA p most ts) := by
  intro w F h
  have hS : Becomes F (refA p most ts) w w := Becomes.refl h
  have hn : ¬ (1 ≤ b ∧ b ≤ 1023) := fun c => by rw [(suMay_iff b).2 c] at hm; cases hm
  clear h hm
  by_cases d1 : b < 1
  · clear hn
    go_enter Tryd.func25, Tryd.ntmps25
    go_wp2
    go_ret2
    exact ⟨rfl, hS⟩
  · have d2 : 1023 < b := by omega
    clear hn
    go_enter Tryd.func25, Tryd.ntmps25
    go_wp2
    go_ret2
    exact ⟨rfl, hS⟩
set_option maxRecDepth 100000 in
set_option maxHeartbeats 8000000 in
theorem drsput_yes (p : Nat) (most : Int) (ts : List ByteArray) (b : Int) (hl : ts.length ≤ 1000000) (hm : suMay b = true) : Does Tryd.prog (refA p most ts) 25 #[.pointer (some ⟨p, 0, none⟩), .int .i64 b] (.returned (.tuple #[.string (suS most ts b), .int .i64 (suE most ts b)])) (refA p most (suT most ts b)) := by
  intro w F h
  have hS : Becomes F (refA p most ts) w w := Becomes.refl h
  clear h
  have hln := fun own => suLine_small b own
  obtain ⟨n0, n1⟩ := nmX_bd most ts (suTm b)
  obtain ⟨b0, b1⟩ := (suMay_iff b).1 hm
  rw [show suT most ts b = nmT most ts (suTm b) by unfold suT; rw [hm]; rfl]
  have hSS : nmE most ts (suTm b) = 0 → suS most ts b = padS (numS b ++ numS (nmX most ts (suTm b))) ∧ suE most ts b = 0 := fun e => by
    have hk : suOk most ts b = true := by unfold suOk; rw [hm, e]; rfl
    unfold suS suE; rw [hk]; exact ⟨rfl, rfl⟩
  have hSN : nmE most ts (suTm b) ≠ 0 → suS most ts b = ⟨#[]⟩ ∧ suE most ts b = 1000 := fun e => by
    have hk : suOk most ts b = false := by unfold suOk; rw [hm]; simp [e]
    unfold suS suE; rw [hk]; exact ⟨rfl, rfl⟩
  generalize suS most ts b = RS at *
  generalize suE most ts b = RE at *
  have hK : ckX most ts true (suTm b) = (if nmE most ts (suTm b) = 0 then nmX most ts (suTm b) else 0) ∧ ckE most ts true (suTm b) = (if nmE most ts (suTm b) = 0 then 0 else 300) := by
    unfold ckX ckE; by_cases e : nmE most ts (suTm b) = 0 <;> simp [e]
  have h5 := numS_size5 b
  have hH := drhash p most ts (markS ++ numS b) (by rw [ByteArray.size_append, show markS.size = 5 from rfl]; omega)
  rw [show okK none = true from rfl, show tmK cH none (markS ++ numS b) = suTm b from rfl, show ckT most ts true (suTm b) = nmT most ts (suTm b) from rfl, hK.1, hK.2] at hH
  clear hK hm
  generalize nmT most ts (suTm b) = T' at *
  generalize nmX most ts (suTm b) = own at *
  generalize nmE most ts (suTm b) = en at *
  have d1 : ¬ b < 1 := by omega
  have d2 : ¬ 1023 < b := by omega
  have hB := fun w => rn1 b 3 w (by omega) (by omega)
  rw [numsB_one] at hB
  have HB := Lib.hid hB
  have hO := fun w => rn2 b own 3 w (by omega) (by omega) (by omega) (by omega)
  rw [show numsB [b, own] = numS b ++ numS own by simp only [numsB]; rw [ba_nil]] at hO
  have HO := Lib.hid hO
  have h6 := numS_size5 own
  have hl64 := hln own
  have HX := Lib.hid (fun w => rsectorS (numS b ++ numS own) w (by omega))
  have hadd : ¬ 9223372036854775807 < 5 + (numS b).size := by omega
  clear hB hO hln hl n0 n1 b0 b1 h6 hl64 h5
  generalize numS b = B at *
  generalize numS own = O at *
  by_cases hen : en = 0
  · obtain ⟨q1, q2⟩ := hSS hen
    rw [q1, q2]
    rw [if_pos hen, if_pos hen] at hH
    unfold markS at hH
    have HH := Lib.hid hH
    clear hH hSS hSN q1 q2
    go_enter Tryd.func25, Tryd.ntmps25
    go_wp2_with (first
      | (go_at_call 39; first
          | ((with_reducible refine (HB.out _).mono ?_); rintro e w1 ⟨rfl, hb⟩; replace hS := hS.lay (refA_good _ _ _) hb; clear hb)
          | ((with_reducible refine (HO.out _).mono ?_); rintro e w1 ⟨rfl, hb⟩; replace hS := hS.lay (refA_good _ _ _) hb; clear hb))
      | (go_at_call 40; (with_reducible refine (Becomes.op HH.out hS).mono ?_); rintro e w1 ⟨rfl, hS1⟩; replace hS := hS1; clear hS1)
      | (go_at_call 41; (with_reducible refine (HX.out _).mono ?_); rintro e w1 ⟨rfl, hb⟩; replace hS := hS.lay (refA_good _ _ _) hb; clear hb))
    go_ret2
    exact ⟨rfl, hS⟩
  · obtain ⟨q1, q2⟩ := hSN hen
    rw [q1, q2]
    rw [if_neg hen, if_neg hen] at hH
    unfold markS at hH
    have HH := Lib.hid hH
    clear hH hSS hSN q1 q2
    go_enter Tryd.func25, Tryd.ntmps25
    go_wp2_with (first
      | (go_at_call 39; (with_reducible refine (HB.out _).mono ?_); rintro e w1 ⟨rfl, hb⟩; replace hS := hS.lay (refA_good _ _ _) hb; clear hb)
      | (go_at_call 40; (with_reducible refine (Becomes.op HH.out hS).mono ?_); rintro e w1 ⟨rfl, hS1⟩; replace hS := hS1; clear hS1))
    go_ret2
    exact ⟨rfl, hS⟩
theorem drsput (p : Nat) (most : Int) (ts : List ByteArray) (b : Int) (hl : ts.length ≤ 1000000) : Does Tryd.prog (refA p most ts) 25 #[.pointer (some ⟨p, 0, none⟩), .int .i64 b] (.returned (.tuple #[.string (suS most ts b), .int .i64 (suE most ts b)])) (refA p most (suT most ts b)) := by
  cases hm : suMay b with
  | true => exact drsput_yes p most ts b hl hm
  | false =>
    have hk : suOk most ts b = false := by unfold suOk; rw [hm]; rfl
    rw [show suS most ts b = ⟨#[]⟩ by unfold suS; rw [hk]; rfl, show suE most ts b = 1000 by unfold suE; rw [hk]; rfl, show suT most ts b = ts by unfold suT; rw [hm]; rfl]
    exact drsput_no p most ts b hm
end Go.Proofs.YtiebpjkppjollaaDoor
