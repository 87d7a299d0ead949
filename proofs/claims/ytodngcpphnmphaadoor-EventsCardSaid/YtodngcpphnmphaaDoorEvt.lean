/- Plain mathematics of events: which may be, their bytes, and reading them. No program is named. -/
import Derived.Test.YtodngcpphnmphaaDoorCodec
namespace Go.Proofs.YtodngcpphnmphaaDoor
open Go

structure Ev where
  kind : Int
  user : Int
  session : Int
  address : Int
  a : Int
  b : Int
  c : Int
  tick : Int
deriving DecidableEq
def Ev.val (p : Ev) : Value := .agg #[.int .i64 p.kind, .int .i64 p.user, .int .i64 p.session, .int .i64 p.address, .int .i64 p.a, .int .i64 p.b, .int .i64 p.c, .int .i64 p.tick]
def Ev.zero : Ev := ⟨0, 0, 0, 0, 0, 0, 0, 0⟩
/-- The parts of its kind alone. -/
def Ev.part (p : Ev) : Option Ev :=
  if p.kind = 0 then some ⟨0, 0, 0, 0, 0, 0, 0, p.tick⟩
  else if p.kind = 1 then some ⟨1, p.user, 0, 0, p.a, p.b, p.c, 0⟩
  else if p.kind = 2 then some ⟨2, p.user, 0, 0, 0, 0, 0, p.tick⟩
  else if p.kind = 3 then some ⟨3, p.user, 0, 0, p.a, 0, 0, 0⟩
  else if p.kind = 4 then some ⟨4, p.user, 0, 0, 0, 0, 0, 0⟩
  else if p.kind = 5 then some ⟨5, p.user, p.session, p.address, 0, 0, 0, p.tick⟩
  else if p.kind = 6 then some ⟨6, 0, p.session, 0, p.a, p.b, 0, p.tick⟩
  else if p.kind = 7 then some ⟨7, p.user, 0, 0, 0, 0, 0, 0⟩
  else if p.kind = 8 then some ⟨8, 0, 0, 0, 0, 0, 0, 0⟩
  else if p.kind = 9 then some ⟨9, 0, p.session, 0, 0, 0, 0, 0⟩
  else none
def Ev.rng (p : Ev) : Bool := decide (0 ≤ p.user) && decide (p.user ≤ 7) && decide (0 ≤ p.address) && decide (p.address ≤ 15) && decide (0 ≤ p.tick) && decide (p.tick ≤ 1048575) && decide (0 ≤ p.c) && decide (p.c ≤ 1048576) && okNum p.session && okNum p.a && okNum p.b
def Ev.lim (p : Ev) : Bool := (!decide (p.kind = 6) || decide (p.b ≤ 4))
def Ev.may (p : Ev) : Bool := p.rng && decide (p.part = some p) && p.lim
def Ev.fl (p : Ev) : List Fld :=
  if p.kind = 0 then [.n 0, .n p.tick]
  else if p.kind = 1 then [.n 1, .n p.user, .n p.a, .n p.b, .n p.c]
  else if p.kind = 2 then [.n 2, .n p.user, .n p.tick]
  else if p.kind = 3 then [.n 3, .n p.user, .n p.a]
  else if p.kind = 4 then [.n 4, .n p.user]
  else if p.kind = 5 then [.n 5, .n p.session, .n p.user, .n p.address, .n p.tick]
  else if p.kind = 6 then [.n 6, .n p.session, .n p.a, .n p.b, .n p.tick]
  else if p.kind = 7 then [.n 7, .n p.user]
  else if p.kind = 8 then [.n 8]
  else if p.kind = 9 then [.n 9, .n p.session]
  else [.n p.kind]
def Ev.sh (k : Int) : List Bool := if k = 0 then [false] else if k = 1 then [false, false, false, false] else if k = 2 then [false, false] else if k = 3 then [false, false] else if k = 4 then [false] else if k = 5 then [false, false, false, false] else if k = 6 then [false, false, false, false] else if k = 7 then [false] else if k = 8 then [] else if k = 9 then [false] else []
def Ev.mk' : List Fld → Ev
  | [.n k, .n x] => if k = 0 then ⟨0, 0, 0, 0, 0, 0, 0, x⟩ else if k = 4 then ⟨4, x, 0, 0, 0, 0, 0, 0⟩ else if k = 7 then ⟨7, x, 0, 0, 0, 0, 0, 0⟩ else ⟨k, 0, x, 0, 0, 0, 0, 0⟩
  | [.n k, .n x, .n y, .n z, .n u] => if k = 1 then ⟨1, x, 0, 0, y, z, u, 0⟩ else if k = 5 then ⟨5, y, x, z, 0, 0, 0, u⟩ else ⟨k, 0, x, 0, y, z, 0, u⟩
  | [.n k, .n x, .n y] => if k = 2 then ⟨2, x, 0, 0, 0, 0, 0, y⟩ else ⟨k, x, 0, 0, y, 0, 0, 0⟩
  | .n k :: _ => ⟨k, 0, 0, 0, 0, 0, 0, 0⟩
  | _ => Ev.zero
def Ev.put (p : Ev) : ByteArray := encL p.fl
def Ev.get (t : ByteArray) : Option Ev := getK Ev.sh Ev.mk' Ev.may t

theorem Ev.rng_iff (p : Ev) : p.rng = true ↔ 0 ≤ p.user ∧ p.user ≤ 7 ∧ 0 ≤ p.address ∧ p.address ≤ 15 ∧ 0 ≤ p.tick ∧ p.tick ≤ 1048575 ∧ 0 ≤ p.c ∧ p.c ≤ 1048576 ∧ okNum p.session = true ∧ okNum p.a = true ∧ okNum p.b = true := by
  unfold Ev.rng; simp only [Bool.and_eq_true, decide_eq_true_eq, and_assoc]
theorem Ev.may_iff (p : Ev) : p.may = true ↔ p.rng = true ∧ p.part = some p ∧ p.lim = true := by unfold Ev.may; simp [and_assoc]
theorem Ev.kinds {p : Ev} (h : p.part = some p) : p.kind = 0 ∨ p.kind = 1 ∨ p.kind = 2 ∨ p.kind = 3 ∨ p.kind = 4 ∨ p.kind = 5 ∨ p.kind = 6 ∨ p.kind = 7 ∨ p.kind = 8 ∨ p.kind = 9 := by
  unfold Ev.part at h
  by_cases h0 : p.kind = 0
  · exact .inl h0
  by_cases h1 : p.kind = 1
  · exact .inr (.inl h1)
  by_cases h2 : p.kind = 2
  · exact .inr (.inr (.inl h2))
  by_cases h3 : p.kind = 3
  · exact .inr (.inr (.inr (.inl h3)))
  by_cases h4 : p.kind = 4
  · exact .inr (.inr (.inr (.inr (.inl h4))))
  by_cases h5 : p.kind = 5
  · exact .inr (.inr (.inr (.inr (.inr (.inl h5)))))
  by_cases h6 : p.kind = 6
  · exact .inr (.inr (.inr (.inr (.inr (.inr (.inl h6))))))
  by_cases h7 : p.kind = 7
  · exact .inr (.inr (.inr (.inr (.inr (.inr (.inr (.inl h7)))))))
  by_cases h8 : p.kind = 8
  · exact .inr (.inr (.inr (.inr (.inr (.inr (.inr (.inr (.inl h8))))))))
  by_cases h9 : p.kind = 9
  · exact .inr (.inr (.inr (.inr (.inr (.inr (.inr (.inr (.inr h9))))))))
  rw [if_neg h0, if_neg h1, if_neg h2, if_neg h3, if_neg h4, if_neg h5, if_neg h6, if_neg h7, if_neg h8, if_neg h9] at h; cases h
theorem Ev.codec : Codec Ev.may Ev.put Ev.get := by
  refine codec_of (fl := Ev.fl) ?_ ?_ ?_
  · intro p hp
    obtain ⟨hr, hk, -⟩ := (Ev.may_iff p).1 hp
    obtain ⟨l_user, u_user, l_address, u_address, l_tick, u_tick, l_c, u_c, n_session, n_a, n_b⟩ := (Ev.rng_iff p).1 hr
    have n_user : okNum p.user = true := (okNum_iff _).2 ⟨l_user, by omega⟩
    have n_address : okNum p.address = true := (okNum_iff _).2 ⟨l_address, by omega⟩
    have n_tick : okNum p.tick = true := (okNum_iff _).2 ⟨l_tick, by omega⟩
    have n_c : okNum p.c = true := (okNum_iff _).2 ⟨l_c, by omega⟩
    rcases Ev.kinds hk with h | h | h | h | h | h | h | h | h | h <;> unfold Ev.fl <;> rw [h]
    · refine ⟨0, _, rfl, rfl, fun f hf => ?_⟩
      have hf' : f ∈ [Fld.n 0, Fld.n p.tick] := hf
      simp only [List.mem_cons, List.not_mem_nil, or_false] at hf'
      rcases hf' with rfl | rfl
      · decide
      · exact n_tick
    · refine ⟨1, _, rfl, rfl, fun f hf => ?_⟩
      have hf' : f ∈ [Fld.n 1, Fld.n p.user, Fld.n p.a, Fld.n p.b, Fld.n p.c] := hf
      simp only [List.mem_cons, List.not_mem_nil, or_false] at hf'
      rcases hf' with rfl | rfl | rfl | rfl | rfl
      · decide
      · exact n_user
      · exact n_a
      · exact n_b
      · exact n_c
    · refine ⟨2, _, rfl, rfl, fun f hf => ?_⟩
      have hf' : f ∈ [Fld.n 2, Fld.n p.user, Fld.n p.tick] := hf
      simp only [List.mem_cons, List.not_mem_nil, or_false] at hf'
      rcases hf' with rfl | rfl | rfl
      · decide
      · exact n_user
      · exact n_tick
    · refine ⟨3, _, rfl, rfl, fun f hf => ?_⟩
      have hf' : f ∈ [Fld.n 3, Fld.n p.user, Fld.n p.a] := hf
      simp only [List.mem_cons, List.not_mem_nil, or_false] at hf'
      rcases hf' with rfl | rfl | rfl
      · decide
      · exact n_user
      · exact n_a
    · refine ⟨4, _, rfl, rfl, fun f hf => ?_⟩
      have hf' : f ∈ [Fld.n 4, Fld.n p.user] := hf
      simp only [List.mem_cons, List.not_mem_nil, or_false] at hf'
      rcases hf' with rfl | rfl
      · decide
      · exact n_user
    · refine ⟨5, _, rfl, rfl, fun f hf => ?_⟩
      have hf' : f ∈ [Fld.n 5, Fld.n p.session, Fld.n p.user, Fld.n p.address, Fld.n p.tick] := hf
      simp only [List.mem_cons, List.not_mem_nil, or_false] at hf'
      rcases hf' with rfl | rfl | rfl | rfl | rfl
      · decide
      · exact n_session
      · exact n_user
      · exact n_address
      · exact n_tick
    · refine ⟨6, _, rfl, rfl, fun f hf => ?_⟩
      have hf' : f ∈ [Fld.n 6, Fld.n p.session, Fld.n p.a, Fld.n p.b, Fld.n p.tick] := hf
      simp only [List.mem_cons, List.not_mem_nil, or_false] at hf'
      rcases hf' with rfl | rfl | rfl | rfl | rfl
      · decide
      · exact n_session
      · exact n_a
      · exact n_b
      · exact n_tick
    · refine ⟨7, _, rfl, rfl, fun f hf => ?_⟩
      have hf' : f ∈ [Fld.n 7, Fld.n p.user] := hf
      simp only [List.mem_cons, List.not_mem_nil, or_false] at hf'
      rcases hf' with rfl | rfl
      · decide
      · exact n_user
    · refine ⟨8, _, rfl, rfl, fun f hf => ?_⟩
      have hf' : f ∈ [Fld.n 8] := hf
      simp only [List.mem_cons, List.not_mem_nil, or_false] at hf'
      subst hf'
      · decide
    · refine ⟨9, _, rfl, rfl, fun f hf => ?_⟩
      have hf' : f ∈ [Fld.n 9, Fld.n p.session] := hf
      simp only [List.mem_cons, List.not_mem_nil, or_false] at hf'
      rcases hf' with rfl | rfl
      · decide
      · exact n_session
  · intro p hp
    obtain ⟨hr, hk, -⟩ := (Ev.may_iff p).1 hp
    have hk' := hk
    rcases Ev.kinds hk with h | h | h | h | h | h | h | h | h | h <;> unfold Ev.part at hk' <;> unfold Ev.fl <;> rw [h] at hk' ⊢
    · exact Option.some.inj hk'
    · exact Option.some.inj hk'
    · exact Option.some.inj hk'
    · exact Option.some.inj hk'
    · exact Option.some.inj hk'
    · exact Option.some.inj hk'
    · exact Option.some.inj hk'
    · exact Option.some.inj hk'
    · exact Option.some.inj hk'
    · exact Option.some.inj hk'
  · intro k r hs hm
    unfold Ev.sh at hs
    by_cases h0 : k = 0
    · subst h0
      rw [if_pos rfl] at hs
      match r, hs with
      | [.n x], _ => rfl
    rw [if_neg h0] at hs
    by_cases h1 : k = 1
    · subst h1
      rw [if_pos rfl] at hs
      match r, hs with
      | [.n x, .n y, .n z, .n u], _ => rfl
    rw [if_neg h1] at hs
    by_cases h2 : k = 2
    · subst h2
      rw [if_pos rfl] at hs
      match r, hs with
      | [.n x, .n y], _ => rfl
    rw [if_neg h2] at hs
    by_cases h3 : k = 3
    · subst h3
      rw [if_pos rfl] at hs
      match r, hs with
      | [.n x, .n y], _ => rfl
    rw [if_neg h3] at hs
    by_cases h4 : k = 4
    · subst h4
      rw [if_pos rfl] at hs
      match r, hs with
      | [.n x], _ => rfl
    rw [if_neg h4] at hs
    by_cases h5 : k = 5
    · subst h5
      rw [if_pos rfl] at hs
      match r, hs with
      | [.n x, .n y, .n z, .n u], _ => rfl
    rw [if_neg h5] at hs
    by_cases h6 : k = 6
    · subst h6
      rw [if_pos rfl] at hs
      match r, hs with
      | [.n x, .n y, .n z, .n u], _ => rfl
    rw [if_neg h6] at hs
    by_cases h7 : k = 7
    · subst h7
      rw [if_pos rfl] at hs
      match r, hs with
      | [.n x], _ => rfl
    rw [if_neg h7] at hs
    by_cases h8 : k = 8
    · subst h8
      rw [if_pos rfl] at hs
      match r, hs with
      | [], _ => rfl
    rw [if_neg h8] at hs
    by_cases h9 : k = 9
    · subst h9
      rw [if_pos rfl] at hs
      match r, hs with
      | [.n x], _ => rfl
    rw [if_neg h9] at hs
    exfalso
    have : r = [] := by cases r with
      | nil => rfl
      | cons a l => cases hs
    subst this
    obtain ⟨_, hk, _⟩ := (Ev.may_iff _).1 hm
    rcases Ev.kinds hk with h | h | h | h | h | h | h | h | h | h
    · exact h0 h
    · exact h1 h
    · exact h2 h
    · exact h3 h
    · exact h4 h
    · exact h5 h
    · exact h6 h
    · exact h7 h
    · exact h8 h
    · exact h9 h
def Ev.putS (p : Ev) : ByteArray := if p.may then p.put else ⟨#[]⟩
def Ev.putE (p : Ev) : Int := if p.may then 0 else 700
def Ev.getP (t : ByteArray) : Ev := (Ev.get t).getD Ev.zero
def Ev.getE (t : ByteArray) : Int := if (Ev.get t).isSome then 0 else 700
end Go.Proofs.YtodngcpphnmphaaDoor
