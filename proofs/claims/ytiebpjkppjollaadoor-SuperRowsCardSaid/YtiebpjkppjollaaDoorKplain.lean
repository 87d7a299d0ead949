/- Plain words on a disk: what is kept, what waits, and what each call answers and leaves. No program is named. -/
import Derived.WalkKit
import Derived.Lib.Hide
namespace Go.Proofs.YtiebpjkppjollaaDoor
open Go

/-- A write that waits. -/
abbrev Wt := Nat × ByteArray
structure Dk where
  kept : List ByteArray
  waits : List Wt
  down : Bool
def zer64 : ByteArray := ⟨(List.replicate 64 (0 : UInt8)).toArray⟩
def Dk.new (n : Nat) : Dk := ⟨List.replicate n zer64, [], false⟩
/-- It is one. -/
structure Dk.Ok (d : Dk) : Prop where
  one : 1 ≤ d.kept.length
  most : d.kept.length ≤ 256
  sz : ∀ s ∈ d.kept, s.size = 64
  ws : ∀ x ∈ d.waits, x.1 < d.kept.length ∧ x.2.size = 64
def keep (k : List ByteArray) (x : Wt) : List ByteArray := k.set x.1 x.2
def keepAll (k : List ByteArray) (ws : List Wt) : List ByteArray := ws.foldl keep k
/-- What is seen of the sectors. -/
def Dk.see (d : Dk) : List ByteArray := keepAll d.kept d.waits

def Dk.has (d : Dk) (i : Int) : Bool := decide (0 ≤ i) && decide (i < d.kept.length)
theorem Dk.has_iff (d : Dk) (i : Int) : d.has i = true ↔ 0 ≤ i ∧ i < d.kept.length := by simp [Dk.has]
def Dk.wrE (d : Dk) (i : Int) (s : ByteArray) : Int := if d.down then 801 else if d.has i && decide (s.size = 64) then 0 else 800
def Dk.wr (d : Dk) (i : Int) (s : ByteArray) : Dk := if d.down then d else if d.has i && decide (s.size = 64) then { d with waits := d.waits ++ [(i.toNat, s)] } else d
def Dk.flE (d : Dk) : Int := if d.down then 801 else 0
def Dk.fl (d : Dk) : Dk := if d.down then d else ⟨d.see, [], false⟩
def Dk.rdE (d : Dk) (i : Int) : Int := if d.down then 801 else if d.has i then 0 else 800
def Dk.rdS (d : Dk) (i : Int) : ByteArray := if d.down then ⟨#[]⟩ else if d.has i then d.see.getD i.toNat ⟨#[]⟩ else ⟨#[]⟩
/-- Bit i of mask, below 30. -/
def bitK (m : Nat) (i : Nat) : Bool := decide (i < 30) && m.testBit i
/-- What a crash keeps: from the i-th on; whether one was torn. -/
def crk (m t : Nat) : Nat → Bool → List ByteArray → List Wt → List ByteArray
  | _, _, k, [] => k
  | i, lost, k, x :: ws =>
    if bitK m i then crk m t (i + 1) lost (k.set x.1 x.2) ws
    else if lost then crk m t (i + 1) true k ws
    else crk m t (i + 1) true (k.set x.1 (x.2.extract 0 t ++ (k.getD x.1 ⟨#[]⟩).extract t 64)) ws
def Dk.crE (d : Dk) (m t : Int) : Int := if d.down then 801 else if decide (0 ≤ m) && decide (0 ≤ t) then 0 else 800
def Dk.cr (d : Dk) (m t : Int) : Dk := if d.down then d else if decide (0 ≤ m) && decide (0 ≤ t) then ⟨crk m.toNat (min t.toNat 64) 0 false d.kept d.waits, [], true⟩ else d
def Dk.rsE (d : Dk) : Int := if d.down then 0 else 800
def Dk.rs (d : Dk) : Dk := ⟨d.kept, d.waits, false⟩

theorem keep_len (k : List ByteArray) (x : Wt) : (keep k x).length = k.length := by simp [keep]
theorem keepAll_len (k : List ByteArray) (ws : List Wt) : (keepAll k ws).length = k.length := by
  induction ws generalizing k with
  | nil => rfl
  | cons x ws ih => simp only [keepAll, List.foldl_cons] at ih ⊢; rw [ih, keep_len]
theorem keepAll_snoc (k : List ByteArray) (ws : List Wt) (x : Wt) : keepAll k (ws ++ [x]) = keep (keepAll k ws) x := by simp [keepAll]
theorem set_sz {k : List ByteArray} {i : Nat} {s : ByteArray} (h : ∀ s ∈ k, s.size = 64) (hs : s.size = 64) : ∀ a ∈ k.set i s, a.size = 64 := fun a ha => by
  rcases List.mem_or_eq_of_mem_set ha with c | rfl
  · exact h a c
  · exact hs
theorem keepAll_sz {k : List ByteArray} {ws : List Wt} (h : ∀ s ∈ k, s.size = 64) (hw : ∀ x ∈ ws, x.2.size = 64) : ∀ s ∈ keepAll k ws, s.size = 64 := by
  induction ws generalizing k with
  | nil => exact h
  | cons x ws ih => exact ih (set_sz h (hw x (by simp))) (fun y hy => hw y (by simp [hy]))
theorem getD_sz {k : List ByteArray} (h : ∀ s ∈ k, s.size = 64) {i : Nat} (hi : i < k.length) : (k.getD i ⟨#[]⟩).size = 64 := by
  rw [List.getD, List.getElem?_eq_getElem hi]; exact h _ (List.getElem_mem hi)
/-- Where none behind the first n waits for it. -/
theorem see_none {k : List ByteArray} {ws : List Wt} {i : Nat} (n : Nat) (h : ∀ j, n ≤ j → j < ws.length → (ws.getD j (0, ⟨#[]⟩)).1 ≠ i) : (keepAll k ws).getD i ⟨#[]⟩ = (keepAll k (ws.take n)).getD i ⟨#[]⟩ := by
  induction ws generalizing k n with
  | nil => simp
  | cons x ws ih =>
    cases n with
    | zero =>
      have h0 : x.1 ≠ i := h 0 (Nat.le_refl _) (by simp)
      have := ih (k := keep k x) 0 (fun j _ hj => by have := h (j + 1) (by omega) (by simpa using hj); simpa using this)
      simp only [keepAll, List.foldl_cons, List.take_zero, List.foldl_nil] at this ⊢
      rw [this]
      simp [keep, List.getD, h0]
    | succ n =>
      have := ih (k := keep k x) n (fun j hn hj => by have := h (j + 1) (by omega) (by simpa using hj); simpa using this)
      simpa [keepAll] using this
theorem see_at {k : List ByteArray} {ws : List Wt} {n : Nat} (hn : n < ws.length) {i : Nat} (hi : i < k.length) (he : (ws.getD n (0, ⟨#[]⟩)).1 = i) (h : ∀ j, n + 1 ≤ j → j < ws.length → (ws.getD j (0, ⟨#[]⟩)).1 ≠ i) :
    (keepAll k ws).getD i ⟨#[]⟩ = (ws.getD n (0, ⟨#[]⟩)).2 := by
  rw [see_none (n + 1) h, List.take_add_one, List.getElem?_eq_getElem hn]
  have e : ws.getD n (0, ⟨#[]⟩) = ws[n] := by simp [List.getD, hn]
  rw [e] at he ⊢
  rw [show ws.take n ++ (some ws[n]).toList = ws.take n ++ [ws[n]] from rfl, keepAll_snoc, keep, he]
  simp [List.getD, keepAll_len, hi]
theorem keepAll_take {k : List ByteArray} {ws : List Wt} {n : Nat} (hn : n < ws.length) : keepAll k (ws.take (n + 1)) = (keepAll k (ws.take n)).set (ws.getD n (0, ⟨#[]⟩)).1 (ws.getD n (0, ⟨#[]⟩)).2 := by
  rw [List.take_add_one, List.getElem?_eq_getElem hn]
  have e : ws.getD n (0, ⟨#[]⟩) = ws[n] := by simp [List.getD, hn]
  rw [show ws.take n ++ (some ws[n]).toList = ws.take n ++ [ws[n]] from rfl, keepAll_snoc, keep, e]
theorem crk_len (m t : Nat) (i : Nat) (lost : Bool) (k : List ByteArray) (ws : List Wt) : (crk m t i lost k ws).length = k.length := by
  induction ws generalizing i lost k with
  | nil => rfl
  | cons x ws ih =>
    unfold crk
    split
    · rw [ih]; simp
    · split
      · rw [ih]
      · rw [ih]; simp
theorem torn_sz {a b : ByteArray} {t : Nat} (ha : a.size = 64) (hb : b.size = 64) (ht : t ≤ 64) : (a.extract 0 t ++ b.extract t 64).size = 64 := by
  rw [ByteArray.size_append, ByteArray.size_extract, ByteArray.size_extract]; omega
theorem crk_sz {m t : Nat} (ht : t ≤ 64) (i : Nat) (lost : Bool) {k : List ByteArray} {ws : List Wt} (h : ∀ s ∈ k, s.size = 64) (hw : ∀ x ∈ ws, x.1 < k.length ∧ x.2.size = 64) : ∀ s ∈ crk m t i lost k ws, s.size = 64 := by
  induction ws generalizing i lost k with
  | nil => exact h
  | cons x ws ih =>
    have h0 := hw x (by simp)
    have h1 := fun y hy => hw y (List.mem_cons_of_mem x hy)
    unfold crk
    split
    · exact ih _ _ (set_sz h h0.2) (fun y hy => by simpa using h1 y hy)
    · split
      · exact ih _ _ h h1
      · exact ih _ _ (set_sz h (torn_sz h0.2 (getD_sz h h0.1) ht)) (fun y hy => by simpa using h1 y hy)
theorem Dk.ok_new {n : Nat} (h1 : 1 ≤ n) (h2 : n ≤ 256) : (Dk.new n).Ok :=
  ⟨by simpa [Dk.new] using h1, by simpa [Dk.new] using h2, fun s hs => by rw [List.eq_of_mem_replicate hs]; rfl, fun x hx => by cases hx⟩
theorem Dk.ok_wr {d : Dk} (h : d.Ok) (i : Int) (s : ByteArray) : (d.wr i s).Ok := by
  unfold Dk.wr
  split
  · exact h
  · split
    · rename_i h2
      simp only [Bool.and_eq_true, decide_eq_true_eq, Dk.has_iff] at h2
      refine ⟨h.one, h.most, h.sz, fun x hx => ?_⟩
      rcases List.mem_append.1 hx with c | c
      · exact h.ws x c
      · simp at c; subst c; exact ⟨by have a := h2.1.1; have b := h2.1.2; show i.toNat < d.kept.length; omega, h2.2⟩
    · exact h
theorem Dk.ok_fl {d : Dk} (h : d.Ok) : d.fl.Ok := by
  unfold Dk.fl
  split
  · exact h
  · exact ⟨by simp [Dk.see, keepAll_len]; exact h.one, by simp [Dk.see, keepAll_len]; exact h.most, keepAll_sz h.sz (fun x hx => (h.ws x hx).2), fun x hx => by cases hx⟩
theorem Dk.ok_cr {d : Dk} (h : d.Ok) (m t : Int) : (d.cr m t).Ok := by
  unfold Dk.cr
  split
  · exact h
  · split
    · exact ⟨by simp [crk_len]; exact h.one, by simp [crk_len]; exact h.most, crk_sz (by omega) 0 false h.sz h.ws, fun x hx => by cases hx⟩
    · exact h
theorem Dk.ok_rs {d : Dk} (h : d.Ok) : d.rs.Ok := ⟨h.one, h.most, h.sz, h.ws⟩
theorem Dk.len_wr (d : Dk) (i : Int) (s : ByteArray) : (d.wr i s).kept.length = d.kept.length := by
  unfold Dk.wr
  split
  · rfl
  · split <;> rfl
theorem Dk.len_fl (d : Dk) : d.fl.kept.length = d.kept.length := by
  unfold Dk.fl
  split
  · rfl
  · simp [Dk.see, keepAll_len]
theorem Dk.len_cr (d : Dk) (m t : Int) : (d.cr m t).kept.length = d.kept.length := by
  unfold Dk.cr
  split
  · rfl
  · split <;> simp [crk_len]
theorem Dk.waits_wr {d : Dk} {i : Int} {s : ByteArray} {k : Nat} (h : d.waits.length ≤ k) : (d.wr i s).waits.length ≤ k + 1 := by
  unfold Dk.wr
  split
  · omega
  · split
    · simp; omega
    · omega
theorem Dk.waits_fl {d : Dk} {k : Nat} (h : d.waits.length ≤ k) : d.fl.waits.length ≤ k + 1 := by
  unfold Dk.fl
  split
  · omega
  · simp
theorem Dk.waits_cr {d : Dk} {m t : Int} {k : Nat} (h : d.waits.length ≤ k) : (d.cr m t).waits.length ≤ k + 1 := by
  unfold Dk.cr
  split
  · omega
  · split
    · simp
    · omega
theorem Dk.waits_rs {d : Dk} {k : Nat} (h : d.waits.length ≤ k) : d.rs.waits.length ≤ k + 1 := by
  unfold Dk.rs
  simp only
  omega
end Go.Proofs.YtiebpjkppjollaaDoor
