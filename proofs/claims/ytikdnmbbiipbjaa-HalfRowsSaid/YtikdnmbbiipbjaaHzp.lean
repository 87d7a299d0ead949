/- For HalfRows: logins of one time; what adding, taking and the end answer over them. Condition: at most eight of them. -/
import Derived.Test.YtikdnmbbiipbjaaHaaw
import Derived.Test.YtikdnmbbiipbjaaHaw
import Derived.Test.YtikdnmbbiipbjaaRowA
namespace Go.Proofs.Ytikdnmbbiipbjaa
open Go Go.RowKit

abbrev hz (x : Int) : Ha := ⟨x, 0, 0, 0, 9⟩
abbrev hzs (L : List Int) : List Ha := L.map hz
/-- All but q. -/
def hzf (q : Int) (L : List Int) : List Int := L.filter fun x => decide (¬ x = q)
def upto (k : Nat) : List Int := (List.range k).map Int.ofNat
theorem upto_len (k : Nat) : (upto k).length = k := by simp [upto]
theorem upto_succ (k : Nat) : upto (k + 1) = upto k ++ [(k : Int)] := by
  unfold upto
  rw [List.range_succ, List.map_append]
  rfl
theorem hzs_left (L : List Int) {t : Int} (ht : t < 9) : haLeft (hzs L) t = hzs L := haLeft_all fun a ha => by
  obtain ⟨x, _, rfl⟩ := List.mem_map.1 ha
  exact ht
theorem hzs_over (L : List Int) : haLeft (hzs L) 9 = [] := by
  unfold haLeft
  rw [List.filter_eq_nil_iff]
  intro a ha
  obtain ⟨x, _, rfl⟩ := List.mem_map.1 ha
  simp
theorem hzf_none {q : Int} {L : List Int} (h : q ∉ L) : hzf q L = L := List.filter_eq_self.2 fun _ hx => decide_eq_true fun c => h (c ▸ hx)
theorem hzs_find {L : List Int} (hn : L.Nodup) (q : Int) (i : Nat) : (∃ j, haI q (hzs L) i = some (i + j) ∧ j < L.length ∧ (hzs L).getD j Ha.none = hz q ∧ (hzs L).take j ++ (hzs L).drop (j + 1) = hzs (hzf q L) ∧ (hzf q L).length + 1 = L.length) ∨ (haI q (hzs L) i = Option.none ∧ hzf q L = L) := by
  induction L generalizing i with
  | nil => exact .inr ⟨rfl, rfl⟩
  | cons x r ih =>
    obtain ⟨hx, hr⟩ := List.nodup_cons.1 hn
    by_cases e : x = q
    · subst e
      have h1 : hzf x (x :: r) = r := by
        unfold hzf
        rw [List.filter_cons_of_neg (by simp)]
        exact hzf_none hx
      refine .inl ⟨0, ?_, by simp, rfl, ?_, by rw [h1]; simp⟩
      · simp [hzs, haI]
      · rw [h1]; simp [hzs]
    · have h1 : hzf q (x :: r) = x :: hzf q r := by
        unfold hzf
        rw [List.filter_cons_of_pos (by simpa using e)]
      rcases ih hr (i + 1) with ⟨j, a1, a2, a3, a4, a5⟩ | ⟨a1, a2⟩
      · refine .inl ⟨j + 1, ?_, by simpa using a2, by simpa [hzs] using a3, ?_, by rw [h1]; simp [a5]⟩
        · rw [show i + (j + 1) = i + 1 + j by omega, ← a1]
          simp [hzs, haI, e]
        · rw [h1]
          show hz x :: (List.take j (hzs r) ++ List.drop (j + 1) (hzs r)) = hz x :: hzs (hzf q r)
          rw [a4]
      · refine .inr ⟨?_, by rw [h1, a2]⟩
        rw [← a1]
        simp [hzs, haI, e]
theorem hzf_take {q : Int} {L : List Int} {j : Nat} (hj : j < L.length) {y : Int} (hy : L.getD j 0 = y) : hzf q (L.take (j + 1)) = if y = q then hzf q (L.take j) else hzf q (L.take j) ++ [y] := by
  have e : y = L[j] := by rw [← hy]; simp [List.getD, hj]
  unfold hzf
  rw [List.take_succ_eq_append_getElem hj, List.filter_append, ← e]
  by_cases c : y = q
  · rw [if_pos c]; simp [c]
  · rw [if_neg c]; simp [c]
theorem hzf_nodup {q : Int} {L : List Int} (h : L.Nodup) : (hzf q L).Nodup := h.filter _
theorem hzf_len (q : Int) (L : List Int) : (hzf q L).length ≤ L.length := List.length_filter_le ..
theorem hzs_getD {L : List Int} {j : Nat} (hj : j < L.length) : (hzs L).getD j Ha.none = hz (L.getD j 0) := by simp [hzs, List.getD, hj]
section
variable {w0 w : World} {C : Ass} {L : List Int} {k : Nat} {a : Option Addr} {c : Nat}
theorem hz_in (hk : L.length = k) (hk8 : k ≤ 8) (hS : At w0 ((rowE THa 5 (.slice a k c) k (haCells (hzs L))).star C) w) : HaIn [] w a k (hzs L) := by
  have hl : (hzs L).length = k := by rw [List.length_map, hk]
  refine At.haIn (w0 := w0) (C := C) (cap := c) ?_ hl.symm (by omega)
  rw [hl]; exact hS
theorem hz_new (hC : C.Good) {A : Ass} (hA : A.Good) (hS : At w0 (A.star C) w) {es : List Ha} {n : Nat} (hn : es.length = n) {a2 : Option Addr} {c2 : Nat} {w' : World} (hN : HaNew w es a2 c2 w') : At w0 ((rowE THa 5 (.slice a2 n c2) n (haCells es)).star C) w' := by
  subst hn
  exact ((HaNew.front (hA.star hC) hS hN).imp (Ass.imp.swap _ _ _)).drop
theorem hz_add (P : HalvesOk) (hC : C.Good) (hk : L.length = k) (hk8 : k < 8) (hS : At w0 ((rowE THa 5 (.slice a k c) k (haCells (hzs L))).star C) w) (x : Int) :
    Calls Try.prog 8 #[.slice a k c, .agg #[.int .i64 x, .int .i64 0, .int .i64 0, .int .i64 0, .int .i64 9], .int .i64 8, .int .i64 5] w fun e w' => ∃ a2 c2, e = .returned (.tuple #[.slice a2 (k + 1) c2, .int .i64 0]) ∧ At w0 ((rowE THa 5 (.slice a2 (k + 1) c2) (k + 1) (haCells (hzs (L ++ [x])))).star C) w' := by
  obtain ⟨e1, e2⟩ := haAdd_room (es := hzs L) (h := hz x) (m := 8) (t := 5) (by decide) (by decide) (show (5 : Int) < 9 by decide) (by rw [hzs_left L (by decide), List.length_map]; omega)
  rw [hzs_left L (by decide), show hzs L ++ [hz x] = hzs (L ++ [x]) by simp [hzs]] at e2
  have hl : (hzs (L ++ [x])).length = k + 1 := by simp [hzs, hk]
  refine (P.add (hz_in hk (by omega) hS) (by omega) x 0 0 0 9 8 5).mono fun e w' ⟨a2, c2, h1, hN⟩ => ⟨a2, c2, ?_, ?_⟩
  · rw [h1, e1, e2, hl]
  · rw [e2] at hN
    exact hz_new hC (rowE_good _ _ _ _ _) hS hl hN
theorem hz_full (P : HalvesOk) (hk : L.length = 8) (hS : At w0 ((rowE THa 5 (.slice a 8 c) 8 (haCells (hzs L))).star C) w) (x : Int) :
    Calls Try.prog 8 #[.slice a 8 c, .agg #[.int .i64 x, .int .i64 0, .int .i64 0, .int .i64 0, .int .i64 9], .int .i64 8, .int .i64 5] w fun e w' => ∃ a2 c2, e = .returned (.tuple #[.slice a2 0 c2, .int .i64 1801]) ∧ Below w.heap.size w w' := by
  obtain ⟨e1, e2⟩ := haAdd_full (es := hzs L) (h := hz x) (m := 8) (t := 5) (by decide) (by decide) (show (5 : Int) < 9 by decide) (by rw [hzs_left L (by decide), List.length_map]; omega)
  refine (P.adds (hz_in hk (by omega) hS) (by omega) e2 rfl e1).mono fun e w' ⟨a2, c2, h1, _, hb⟩ => ⟨a2, c2, h1, hb⟩
theorem hz_some (P : HalvesOk) (hC : C.Good) (hk : L.length = k) (hk8 : k ≤ 8) (hS : At w0 ((rowE THa 5 (.slice a k c) k (haCells (hzs L))).star C) w) {q : Int} {M : List Int} {m : Nat} (hM : hzf q L = M) (hm : M.length = m)
    (hf : ∃ j, haI q (hzs L) 0 = some (0 + j) ∧ j < L.length ∧ (hzs L).getD j Ha.none = hz q ∧ (hzs L).take j ++ (hzs L).drop (j + 1) = hzs (hzf q L) ∧ (hzf q L).length + 1 = L.length) :
    Calls Try.prog 10 #[.slice a k c, .int .i64 q, .int .i64 8] w fun e w' => ∃ a2 c2, e = .returned (.tuple #[.agg #[.int .i64 q, .int .i64 0, .int .i64 0, .int .i64 0, .int .i64 9], .slice a2 m c2, .int .i64 0]) ∧ At w0 ((rowE THa 5 (.slice a2 m c2) m (haCells (hzs M))).star C) w' := by
  subst hM hm
  obtain ⟨j, h1, h2, h3, h4, h5⟩ := hf
  rw [Nat.zero_add] at h1
  have hl : (hzs (hzf q L)).length = (hzf q L).length := List.length_map ..
  have hL := hzs_left L (show (8 : Int) < 9 by decide)
  have e1 : haTE (hzs L) q 8 = 0 := by unfold haTE; rw [hL, h1]; rfl
  have e2 : haTX (hzs L) q 8 = hz q := by unfold haTX; rw [hL, h1]; exact h3
  have e3 : haTL (hzs L) q 8 = hzs (hzf q L) := by unfold haTL; rw [hL, h1]; exact h4
  refine (P.take (hz_in hk hk8 hS) (by omega) q 8).mono fun e w' ⟨a2, c2, g1, hN⟩ => ⟨a2, c2, ?_, ?_⟩
  · rw [g1, e1, e2, e3, hl]
  · rw [e3] at hN
    exact hz_new hC (rowE_good _ _ _ _ _) hS hl hN
theorem hz_none (P : HalvesOk) (hk : L.length = k) (hk8 : k ≤ 8) (hS : At w0 ((rowE THa 5 (.slice a k c) k (haCells (hzs L))).star C) w) {q : Int} (hf : haI q (hzs L) 0 = Option.none) :
    Calls Try.prog 10 #[.slice a k c, .int .i64 q, .int .i64 8] w fun e w' => ∃ a2 c2, e = .returned (.tuple #[.agg #[.int .i64 0, .int .i64 0, .int .i64 0, .int .i64 0, .int .i64 0], .slice a2 0 c2, .int .i64 1802]) ∧ Below w.heap.size w w' := by
  have hL := hzs_left L (show (8 : Int) < 9 by decide)
  have e1 : haTE (hzs L) q 8 = 1802 := by unfold haTE; rw [hL, hf]; rfl
  have e2 : haTX (hzs L) q 8 = Ha.none := by unfold haTX; rw [hL, hf]
  have e3 : haTL (hzs L) q 8 = [] := by unfold haTL; rw [hL, hf]
  exact (P.takes (hz_in hk hk8 hS) (by omega) e2 e3 rfl e1).mono fun e w' ⟨a2, c2, h1, _, hb⟩ => ⟨a2, c2, h1, hb⟩
theorem hz_over (P : HalvesOk) (hk : L.length = k) (hk8 : k ≤ 8) (hS : At w0 ((rowE THa 5 (.slice a k c) k (haCells (hzs L))).star C) w) :
    Calls Try.prog 12 #[.slice a k c, .int .i64 9] w fun e w' => ∃ a2 c2, e = .returned (.slice a2 0 c2) ∧ Below w.heap.size w w' :=
  (P.expires (hz_in hk hk8 hS) (by omega) (hzs_over L) rfl).mono fun e w' ⟨a2, c2, h1, _, hb⟩ => ⟨a2, c2, h1, hb⟩
/-- A row of numbers in the text. -/
theorem At.litA (hC : C.Good) (h : At w0 C w) (ns : List Int) (n p : Nat) (hn : ns.length = n) (hn2 : n ≤ 1000) (hp : p = w.heap.size) {cs : Array Value} (hcs : cs = (vals ns).toArray) : At w0 ((rowA 3 (.slice (some ⟨p, 0, Option.none⟩) n n) (vals ns)).star C) (w.alloc (.cells cs 3)) := by
  subst hp hn hcs
  have hl : (vals ns).length = ns.length := List.length_map ..
  refine At.add hC h ⟨[w.heap.size], ⟨⟨by simp, .inr ⟨w.heap.size, ns.length, (vals ns).toArray, by rw [hl], Nat.zero_le _, heap_alloc_new w _, by rw [hl]; exact Nat.le_refl _, Nat.le_trans hn2 (by decide), by simp, ?_⟩⟩, rfl⟩, (Tn.refl _ _).alloc _, fun k hk => .inr (by simp at hk; omega)⟩
  rw [List.toList_toArray, List.take_of_length_le (by simp)]
end
end Go.Proofs.Ytikdnmbbiipbjaa
