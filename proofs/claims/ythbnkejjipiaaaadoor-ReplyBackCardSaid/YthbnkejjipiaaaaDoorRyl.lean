/- Plain mathematics of replies: which may be, their bytes, and reading them. No program is named. -/
import Derived.Test.YthbnkejjipiaaaaDoorCodec
namespace Go.Proofs.YthbnkejjipiaaaaDoor
open Go

structure Ry where
  kind : Int
  half : Int
  nonce : Int
  session : Int
  address : Int
  ticket : Int
  seq : Int
  code : Int
  data : ByteArray
deriving DecidableEq
def Ry.val (p : Ry) : Value := .agg #[.int .i64 p.kind, .int .i64 p.half, .int .i64 p.nonce, .int .i64 p.session, .int .i64 p.address, .int .i64 p.ticket, .int .i64 p.seq, .int .i64 p.code, .string p.data]
def Ry.zero : Ry := ⟨0, 0, 0, 0, 0, 0, 0, 0, ⟨#[]⟩⟩
/-- The parts of its kind alone. -/
def Ry.part (p : Ry) : Option Ry :=
  if p.kind = 0 then some ⟨0, p.half, p.nonce, 0, 0, 0, 0, 0, ⟨#[]⟩⟩
  else if p.kind = 1 then some ⟨1, 0, 0, p.session, p.address, p.ticket, 0, 0, ⟨#[]⟩⟩
  else if p.kind = 2 then some ⟨2, 0, 0, p.session, 0, 0, p.seq, 0, p.data⟩
  else if p.kind = 3 then some ⟨3, 0, 0, 0, 0, 0, 0, p.code, ⟨#[]⟩⟩
  else if p.kind = 4 then some ⟨4, 0, 0, p.session, 0, 0, 0, p.code, ⟨#[]⟩⟩
  else if p.kind = 5 then some ⟨5, 0, 0, 0, 0, 0, 0, 0, ⟨#[]⟩⟩
  else none
def Ry.rng (p : Ry) : Bool := decide (p.data.size ≤ 64) && decide (0 ≤ p.seq) && decide (p.seq ≤ 1048575) && decide (0 ≤ p.address) && decide (p.address ≤ 15) && okNum p.half && okNum p.nonce && okNum p.session && okNum p.ticket && okNum p.code
def Ry.lim (p : Ry) : Bool := (!decide (p.kind = 3) || decide (p.code ≤ 11)) && (!decide (p.kind = 4) || decide (p.code ≤ 4))
def Ry.may (p : Ry) : Bool := p.rng && decide (p.part = some p) && p.lim
def Ry.fl (p : Ry) : List Fld :=
  if p.kind = 0 then [.n 0, .n p.half, .n p.nonce]
  else if p.kind = 1 then [.n 1, .n p.session, .n p.address, .n p.ticket]
  else if p.kind = 2 then [.n 2, .n p.session, .n p.seq, .t p.data]
  else if p.kind = 3 then [.n 3, .n p.code]
  else if p.kind = 4 then [.n 4, .n p.session, .n p.code]
  else if p.kind = 5 then [.n 5]
  else [.n p.kind]
def Ry.sh (k : Int) : List Bool := if k = 0 then [false, false] else if k = 1 then [false, false, false] else if k = 2 then [false, false, true] else if k = 3 then [false] else if k = 4 then [false, false] else if k = 5 then [] else []
def Ry.mk' : List Fld → Ry
  | [.n k, .n x, .n y] => if k = 0 then ⟨0, x, y, 0, 0, 0, 0, 0, ⟨#[]⟩⟩ else ⟨k, 0, 0, x, 0, 0, 0, y, ⟨#[]⟩⟩
  | [.n k, .n x, .n y, .n z] => ⟨k, 0, 0, x, y, z, 0, 0, ⟨#[]⟩⟩
  | [.n k, .n x, .n y, .t z] => ⟨k, 0, 0, x, 0, 0, y, 0, z⟩
  | [.n k, .n x] => ⟨k, 0, 0, 0, 0, 0, 0, x, ⟨#[]⟩⟩
  | .n k :: _ => ⟨k, 0, 0, 0, 0, 0, 0, 0, ⟨#[]⟩⟩
  | _ => Ry.zero
def Ry.put (p : Ry) : ByteArray := encL p.fl
def Ry.get (t : ByteArray) : Option Ry := getK Ry.sh Ry.mk' Ry.may t

theorem Ry.rng_iff (p : Ry) : p.rng = true ↔ p.data.size ≤ 64 ∧ 0 ≤ p.seq ∧ p.seq ≤ 1048575 ∧ 0 ≤ p.address ∧ p.address ≤ 15 ∧ okNum p.half = true ∧ okNum p.nonce = true ∧ okNum p.session = true ∧ okNum p.ticket = true ∧ okNum p.code = true := by
  unfold Ry.rng; simp only [Bool.and_eq_true, decide_eq_true_eq, and_assoc]
theorem Ry.may_iff (p : Ry) : p.may = true ↔ p.rng = true ∧ p.part = some p ∧ p.lim = true := by unfold Ry.may; simp [and_assoc]
theorem Ry.kinds {p : Ry} (h : p.part = some p) : p.kind = 0 ∨ p.kind = 1 ∨ p.kind = 2 ∨ p.kind = 3 ∨ p.kind = 4 ∨ p.kind = 5 := by
  unfold Ry.part at h
  by_cases h0 : p.kind = 0
  · exact .inl h0
  by_cases h1 : p.kind = 1
  · exact .inr (.inl h1)
  by_cases h2 : p.kind = 2
  · exact .inr (.inr (.inl h2))
  by_cases h3 : p.kind = 3
  · exact .inr (.inr (.inr (.inl h3)))
  by_cases h4 : p.kind = 4
  · exact .inr (.inr (.inr (.inr (.inl h4))))
  by_cases h5 : p.kind = 5
  · exact .inr (.inr (.inr (.inr (.inr h5))))
  rw [if_neg h0, if_neg h1, if_neg h2, if_neg h3, if_neg h4, if_neg h5] at h; cases h
theorem Ry.codec : Codec Ry.may Ry.put Ry.get := by
  refine codec_of (fl := Ry.fl) ?_ ?_ ?_
  · intro p hp
    obtain ⟨hr, hk, -⟩ := (Ry.may_iff p).1 hp
    obtain ⟨t_data, l_seq, u_seq, l_address, u_address, n_half, n_nonce, n_session, n_ticket, n_code⟩ := (Ry.rng_iff p).1 hr
    have n_seq : okNum p.seq = true := (okNum_iff _).2 ⟨l_seq, by omega⟩
    have n_address : okNum p.address = true := (okNum_iff _).2 ⟨l_address, by omega⟩
    rcases Ry.kinds hk with h | h | h | h | h | h <;> unfold Ry.fl <;> rw [h]
    · refine ⟨0, _, rfl, rfl, fun f hf => ?_⟩
      have hf' : f ∈ [Fld.n 0, Fld.n p.half, Fld.n p.nonce] := hf
      simp only [List.mem_cons, List.not_mem_nil, or_false] at hf'
      rcases hf' with rfl | rfl | rfl
      · decide
      · exact n_half
      · exact n_nonce
    · refine ⟨1, _, rfl, rfl, fun f hf => ?_⟩
      have hf' : f ∈ [Fld.n 1, Fld.n p.session, Fld.n p.address, Fld.n p.ticket] := hf
      simp only [List.mem_cons, List.not_mem_nil, or_false] at hf'
      rcases hf' with rfl | rfl | rfl | rfl
      · decide
      · exact n_session
      · exact n_address
      · exact n_ticket
    · refine ⟨2, _, rfl, rfl, fun f hf => ?_⟩
      have hf' : f ∈ [Fld.n 2, Fld.n p.session, Fld.n p.seq, Fld.t p.data] := hf
      simp only [List.mem_cons, List.not_mem_nil, or_false] at hf'
      rcases hf' with rfl | rfl | rfl | rfl
      · decide
      · exact n_session
      · exact n_seq
      · exact decide_eq_true (by omega)
    · refine ⟨3, _, rfl, rfl, fun f hf => ?_⟩
      have hf' : f ∈ [Fld.n 3, Fld.n p.code] := hf
      simp only [List.mem_cons, List.not_mem_nil, or_false] at hf'
      rcases hf' with rfl | rfl
      · decide
      · exact n_code
    · refine ⟨4, _, rfl, rfl, fun f hf => ?_⟩
      have hf' : f ∈ [Fld.n 4, Fld.n p.session, Fld.n p.code] := hf
      simp only [List.mem_cons, List.not_mem_nil, or_false] at hf'
      rcases hf' with rfl | rfl | rfl
      · decide
      · exact n_session
      · exact n_code
    · refine ⟨5, _, rfl, rfl, fun f hf => ?_⟩
      have hf' : f ∈ [Fld.n 5] := hf
      simp only [List.mem_cons, List.not_mem_nil, or_false] at hf'
      subst hf'
      · decide
  · intro p hp
    obtain ⟨hr, hk, -⟩ := (Ry.may_iff p).1 hp
    have hk' := hk
    rcases Ry.kinds hk with h | h | h | h | h | h <;> unfold Ry.part at hk' <;> unfold Ry.fl <;> rw [h] at hk' ⊢
    · exact Option.some.inj hk'
    · exact Option.some.inj hk'
    · exact Option.some.inj hk'
    · exact Option.some.inj hk'
    · exact Option.some.inj hk'
    · exact Option.some.inj hk'
  · intro k r hs hm
    unfold Ry.sh at hs
    by_cases h0 : k = 0
    · subst h0
      rw [if_pos rfl] at hs
      match r, hs with
      | [.n x, .n y], _ => rfl
    rw [if_neg h0] at hs
    by_cases h1 : k = 1
    · subst h1
      rw [if_pos rfl] at hs
      match r, hs with
      | [.n x, .n y, .n z], _ => rfl
    rw [if_neg h1] at hs
    by_cases h2 : k = 2
    · subst h2
      rw [if_pos rfl] at hs
      match r, hs with
      | [.n x, .n y, .t z], _ => rfl
    rw [if_neg h2] at hs
    by_cases h3 : k = 3
    · subst h3
      rw [if_pos rfl] at hs
      match r, hs with
      | [.n x], _ => rfl
    rw [if_neg h3] at hs
    by_cases h4 : k = 4
    · subst h4
      rw [if_pos rfl] at hs
      match r, hs with
      | [.n x, .n y], _ => rfl
    rw [if_neg h4] at hs
    by_cases h5 : k = 5
    · subst h5
      rw [if_pos rfl] at hs
      match r, hs with
      | [], _ => rfl
    rw [if_neg h5] at hs
    exfalso
    have : r = [] := by cases r with
      | nil => rfl
      | cons a l => cases hs
    subst this
    obtain ⟨_, hk, _⟩ := (Ry.may_iff _).1 hm
    rcases Ry.kinds hk with h | h | h | h | h | h
    · exact h0 h
    · exact h1 h
    · exact h2 h
    · exact h3 h
    · exact h4 h
    · exact h5 h
def Ry.putS (p : Ry) : ByteArray := if p.may then p.put else ⟨#[]⟩
def Ry.putE (p : Ry) : Int := if p.may then 0 else 500
def Ry.getP (t : ByteArray) : Ry := (Ry.get t).getD Ry.zero
def Ry.getE (t : ByteArray) : Int := if (Ry.get t).isSome then 0 else 500
end Go.Proofs.YthbnkejjipiaaaaDoor
