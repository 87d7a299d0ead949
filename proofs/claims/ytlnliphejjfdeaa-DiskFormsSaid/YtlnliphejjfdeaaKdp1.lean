/- Package disk's Waits, Restart, Read: what they answer and leave. No condition but that the disk is one. -/
import Derived.Test.YtlnliphejjfdeaaKdq
import Derived.Test.YtlnliphejjfdeaaKref
namespace Go.Proofs.Ytlnliphejjfdeaa
open Go Go.RowKit

theorem conv_mid {w : World} {g o : Nat} {s : ByteArray} (cap : Nat) (h : w.rangeAt g o (bV s)) :
    (convert 62 9 (.slice (some ⟨g, o, none⟩) s.size cap)).run Try.prog w = .ok (.string s) w := by
  rw [run_convert_bytes_string w 62 9 5 _ _ _ Try.underlying62 Try.underlying5 Try.underlying9]
  have hld := run_loadCells_list (P := Try.prog) (w := w) ⟨g, o, none⟩ (bV s) (fun j v hv => by rw [Addr.add_mid]; exact h j v hv)
  have e : bV s = (s.data.toList.map fun b => (b.toNat : Int)).map (Value.int .u8) := by simp [bV]
  rw [bV_len, e] at hld
  rw [run_bytesToString w _ s.size cap _ hld, foldl_push_bytes]
  simp [Function.comp_def]
section
variable {w : World} {p : Nat} {k s : List ByteArray} {ws : List Wt} {dn : Bool} {n gk gs : Nat} {v : Value}
theorem kup (h : DqIn w p k s ws dn n gk gs v) : Calls Try.prog 25 #[.pointer (some ⟨p, 0, none⟩)] w fun e w' => e = .returned (.int .i64 (if dn then 801 else 0)) ∧ w = w' := by
  have c3 := h.c3
  clear h
  cases dn with
  | true =>
    go_enter Try.func25, Try.ntmps25
    go_wp2
    go_ret
    exact ⟨rfl, rfl⟩
  | false =>
    go_enter Try.func25, Try.ntmps25
    go_wp2
    go_ret
    exact ⟨rfl, rfl⟩
theorem khas (h : DqIn w p k s ws dn n gk gs v) (i : Int) : Calls Try.prog 26 #[.pointer (some ⟨p, 0, none⟩), .int .i64 i] w fun e w' => e = .returned (.bool (decide (0 ≤ i) && decide (i < n))) ∧ w = w' := by
  have c0 := h.c0
  clear h
  by_cases h0 : 0 ≤ i
  · by_cases h1 : i < n
    · rw [show (decide (0 ≤ i) && decide (i < (n : Int))) = true by simp [h0, h1]]
      go_enter Try.func26, Try.ntmps26
      go_wp2
      go_ret
      exact ⟨rfl, rfl⟩
    · rw [show (decide (0 ≤ i) && decide (i < (n : Int))) = false by simp [h0, h1]]
      go_enter Try.func26, Try.ntmps26
      go_wp2
      go_ret
      exact ⟨rfl, rfl⟩
  · rw [show (decide (0 ≤ i) && decide (i < (n : Int))) = false by simp [h0]]
    go_enter Try.func26, Try.ntmps26
    go_wp2
    go_ret
    exact ⟨rfl, rfl⟩
end
theorem kpwaits (p : Nat) (d : Dk) : Does Try.prog (dpA p d) 20 #[.pointer (some ⟨p, 0, none⟩)] (.returned (.int .i64 (d.waits.length : Nat))) (dpA p d) := by
  intro w F h
  have hs := dpA_same h (Below.refl _ _)
  obtain ⟨n, gk, gs, v, hi, rfl⟩ := h
  have c2 := hi.c2
  obtain ⟨ao, c, rfl⟩ := hi.shape
  clear hi
  go_enter Try.func20, Try.ntmps20
  go_wp2
  go_ret
  exact ⟨rfl, hs⟩
theorem kprestart (p : Nat) (d : Dk) : Does Try.prog (dpA p d) 18 #[.pointer (some ⟨p, 0, none⟩)] (.returned (.int .i64 d.rsE)) (dpA p d.rs) := by
  intro w F h
  have hs := dpA_same h (Below.refl _ _)
  obtain ⟨n, gk, gs, v, hi, rfl⟩ := h
  have c3 := hi.c3
  have f3 := hi.f 3
  have HN := Lib.hid (dpA_becomes (w := w) (d := d.rs) (v := v) (hi.setDown false) ((Tn.refl _ _).setCell (.inl (by simp)) _) (fun j hj => .inl hj))
  clear hi
  cases hd : d.down with
  | false =>
    rw [show d.rsE = 800 by unfold Dk.rsE; rw [hd]; rfl, show d.rs = d by unfold Dk.rs; rw [← hd]]
    rw [hd] at c3
    go_enter Try.func18, Try.ntmps18
    go_wp2
    go_ret
    exact ⟨rfl, hs⟩
  | true =>
    rw [show d.rsE = 0 by unfold Dk.rsE; rw [hd]; rfl]
    rw [hd] at c3
    go_enter Try.func18, Try.ntmps18
    go_wp2
    go_ret
    exact ⟨rfl, HN.out⟩
set_option maxHeartbeats 1000000 in
theorem kpread (p : Nat) (d : Dk) (i : Int) : Does Try.prog (dpA p d) 22 #[.pointer (some ⟨p, 0, none⟩), .int .i64 i] (.returned (.tuple #[.string (d.rdS i), .int .i64 (d.rdE i)])) (dpA p d) := by
  intro w F h
  have hs := dpA_same h (Below.refl _ _)
  obtain ⟨n, gk, gs, v, hi, rfl⟩ := h
  have Hu := Lib.hid (kup hi)
  have Hh := Lib.hid (khas hi i)
  have hkn := hi.kn
  cases hd : d.down with
  | true =>
    rw [show d.rdE i = 801 by unfold Dk.rdE; rw [hd]; rfl, show d.rdS i = ⟨#[]⟩ by unfold Dk.rdS; rw [hd]; rfl]
    rw [hd] at Hu
    clear hi
    go_enter Try.func22, Try.ntmps22
    go_wp2_with (go_at_call 25; (with_reducible refine (Hu.out).mono ?_); rintro e w1 ⟨rfl, rfl⟩)
    go_ret2
    exact ⟨rfl, hs⟩
  | false =>
    rw [hd] at Hu
    cases hh : d.has i with
    | false =>
      rw [show d.rdE i = 800 by unfold Dk.rdE; rw [hd, hh]; rfl, show d.rdS i = ⟨#[]⟩ by unfold Dk.rdS; rw [hd, hh]; rfl]
      unfold Dk.has at hh
      rw [hkn] at hh
      rw [hh] at Hh
      clear hi
      go_enter Try.func22, Try.ntmps22
      go_wp2_with (first
        | (go_at_call 25; (with_reducible refine (Hu.out).mono ?_); rintro e w1 ⟨rfl, rfl⟩)
        | (go_at_call 26; (with_reducible refine (Hh.out).mono ?_); rintro e w1 ⟨rfl, rfl⟩))
      go_ret2
      exact ⟨rfl, hs⟩
    | true =>
      rw [show d.rdE i = 0 by unfold Dk.rdE; rw [hd, hh]; rfl, show d.rdS i = d.see.getD i.toNat ⟨#[]⟩ by unfold Dk.rdS; rw [hd, hh]; rfl]
      obtain ⟨h0, h1⟩ := (d.has_iff i).1 hh
      unfold Dk.has at hh
      rw [hkn] at hh h1
      rw [hh] at Hh
      obtain ⟨m, rfl⟩ := Int.eq_ofNat_of_zero_le h0
      have hm : m < n := by omega
      have hm2 : m < d.see.length := by rw [hi.sn]; exact hm
      rw [show ((m : Nat) : Int).toNat = m from rfl]
      have c1 := hi.c1
      have h64 : (d.see.getD m ⟨#[]⟩).size = 64 := getD_sz hi.ss hm2
      have hcv := conv_mid (w := w) (g := gs) (o := m * 64) (s := d.see.getD m ⟨#[]⟩) 64 (rangeAt_row hi.bs fun j u hu => flatS_at hi.ss hm2 hu)
      rw [h64] at hcv
      clear hi h64
      generalize d.see.getD m ⟨#[]⟩ = R at *
      go_enter Try.func22, Try.ntmps22
      go_wp2_with (first
        | (go_at_call 25; (with_reducible refine (Hu.out).mono ?_); rintro e w1 ⟨rfl, rfl⟩)
        | (go_at_call 26; (with_reducible refine (Hh.out).mono ?_); rintro e w1 ⟨rfl, rfl⟩))
      go_ret2
      exact ⟨rfl, hs⟩
end Go.Proofs.Ytlnliphejjfdeaa
