/- Plain mathematics of packets: which may be, their bytes, and reading them. No program is named. -/
import Derived.Test.YthbnkejjipiaaaaDoorCodec
namespace Go.Proofs.YthbnkejjipiaaaaDoor
open Go

structure Pk where
  kind : Int
  user : Int
  nonce : Int
  half : Int
  tag : Int
  code : Int
  session : Int
  seq : Int
  data : ByteArray
deriving DecidableEq
def Pk.val (p : Pk) : Value := .agg #[.int .i64 p.kind, .int .i64 p.user, .int .i64 p.nonce, .int .i64 p.half, .int .i64 p.tag, .int .i64 p.code, .int .i64 p.session, .int .i64 p.seq, .string p.data]
def Pk.zero : Pk := ⟨0, 0, 0, 0, 0, 0, 0, 0, ⟨#[]⟩⟩
/-- The parts of its kind alone. -/
def Pk.part (p : Pk) : Option Pk :=
  if p.kind = 0 then some ⟨0, p.user, p.nonce, 0, 0, 0, 0, 0, ⟨#[]⟩⟩
  else if p.kind = 1 then some ⟨1, 0, 0, p.half, p.tag, p.code, 0, 0, ⟨#[]⟩⟩
  else if p.kind = 2 then some ⟨2, 0, p.nonce, 0, p.tag, p.code, 0, 0, ⟨#[]⟩⟩
  else if p.kind = 3 then some ⟨3, 0, 0, 0, p.tag, 0, p.session, p.seq, p.data⟩
  else if p.kind = 4 then some ⟨4, 0, 0, 0, p.tag, 0, p.session, 0, ⟨#[]⟩⟩
  else none
def Pk.rng (p : Pk) : Bool := decide (p.data.size ≤ 64) && decide (0 ≤ p.seq) && decide (p.seq ≤ 1048575) && okNum p.user && okNum p.nonce && okNum p.half && okNum p.tag && okNum p.code && okNum p.session
def Pk.lim (_p : Pk) : Bool := true
def Pk.may (p : Pk) : Bool := p.rng && decide (p.part = some p) && p.lim
def Pk.fl (p : Pk) : List Fld :=
  if p.kind = 0 then [.n 0, .n p.user, .n p.nonce]
  else if p.kind = 1 then [.n 1, .n p.half, .n p.tag, .n p.code]
  else if p.kind = 2 then [.n 2, .n p.tag, .n p.nonce, .n p.code]
  else if p.kind = 3 then [.n 3, .n p.session, .n p.seq, .n p.tag, .t p.data]
  else if p.kind = 4 then [.n 4, .n p.session, .n p.tag]
  else [.n p.kind]
def Pk.sh (k : Int) : List Bool := if k = 0 then [false, false] else if k = 1 then [false, false, false] else if k = 2 then [false, false, false] else if k = 3 then [false, false, false, true] else if k = 4 then [false, false] else []
def Pk.mk' : List Fld → Pk
  | [.n k, .n x, .n y] => if k = 0 then ⟨0, x, y, 0, 0, 0, 0, 0, ⟨#[]⟩⟩ else ⟨k, 0, 0, 0, y, 0, x, 0, ⟨#[]⟩⟩
  | [.n k, .n x, .n y, .n z] => if k = 1 then ⟨1, 0, 0, x, y, z, 0, 0, ⟨#[]⟩⟩ else ⟨k, 0, y, 0, x, z, 0, 0, ⟨#[]⟩⟩
  | [.n k, .n x, .n y, .n z, .t u] => ⟨k, 0, 0, 0, z, 0, x, y, u⟩
  | .n k :: _ => ⟨k, 0, 0, 0, 0, 0, 0, 0, ⟨#[]⟩⟩
  | _ => Pk.zero
def Pk.put (p : Pk) : ByteArray := encL p.fl
def Pk.get (t : ByteArray) : Option Pk := getK Pk.sh Pk.mk' Pk.may t

theorem Pk.rng_iff (p : Pk) : p.rng = true ↔ p.data.size ≤ 64 ∧ 0 ≤ p.seq ∧ p.seq ≤ 1048575 ∧ okNum p.user = true ∧ okNum p.nonce = true ∧ okNum p.half = true ∧ okNum p.tag = true ∧ okNum p.code = true ∧ okNum p.session = true := by
  unfold Pk.rng; simp only [Bool.and_eq_true, decide_eq_true_eq, and_assoc]
theorem Pk.may_iff (p : Pk) : p.may = true ↔ p.rng = true ∧ p.part = some p ∧ p.lim = true := by unfold Pk.may; simp [and_assoc]
theorem Pk.kinds {p : Pk} (h : p.part = some p) : p.kind = 0 ∨ p.kind = 1 ∨ p.kind = 2 ∨ p.kind = 3 ∨ p.kind = 4 := by
  unfold Pk.part at h
  by_cases h0 : p.kind = 0
  · exact .inl h0
  by_cases h1 : p.kind = 1
  · exact .inr (.inl h1)
  by_cases h2 : p.kind = 2
  · exact .inr (.inr (.inl h2))
  by_cases h3 : p.kind = 3
  · exact .inr (.inr (.inr (.inl h3)))
  by_cases h4 : p.kind = 4
  · exact .inr (.inr (.inr (.inr h4)))
  rw [if_neg h0, if_neg h1, if_neg h2, if_neg h3, if_neg h4] at h; cases h
theorem Pk.codec : Codec Pk.may Pk.put Pk.get := by
  refine codec_of (fl := Pk.fl) ?_ ?_ ?_
  · intro p hp
    obtain ⟨hr, hk, -⟩ := (Pk.may_iff p).1 hp
    obtain ⟨t_data, l_seq, u_seq, n_user, n_nonce, n_half, n_tag, n_code, n_session⟩ := (Pk.rng_iff p).1 hr
    have n_seq : okNum p.seq = true := (okNum_iff _).2 ⟨l_seq, by omega⟩
    rcases Pk.kinds hk with h | h | h | h | h <;> unfold Pk.fl <;> rw [h]
    · refine ⟨0, _, rfl, rfl, fun f hf => ?_⟩
      have hf' : f ∈ [Fld.n 0, Fld.n p.user, Fld.n p.nonce] := hf
      simp only [List.mem_cons, List.not_mem_nil, or_false] at hf'
      rcases hf' with rfl | rfl | rfl
      · decide
      · exact n_user
      · exact n_nonce
    · refine ⟨1, _, rfl, rfl, fun f hf => ?_⟩
      have hf' : f ∈ [Fld.n 1, Fld.n p.half, Fld.n p.tag, Fld.n p.code] := hf
      simp only [List.mem_cons, List.not_mem_nil, or_false] at hf'
      rcases hf' with rfl | rfl | rfl | rfl
      · decide
      · exact n_half
      · exact n_tag
      · exact n_code
    · refine ⟨2, _, rfl, rfl, fun f hf => ?_⟩
      have hf' : f ∈ [Fld.n 2, Fld.n p.tag, Fld.n p.nonce, Fld.n p.code] := hf
      simp only [List.mem_cons, List.not_mem_nil, or_false] at hf'
      rcases hf' with rfl | rfl | rfl | rfl
      · decide
      · exact n_tag
      · exact n_nonce
      · exact n_code
    · refine ⟨3, _, rfl, rfl, fun f hf => ?_⟩
      have hf' : f ∈ [Fld.n 3, Fld.n p.session, Fld.n p.seq, Fld.n p.tag, Fld.t p.data] := hf
      simp only [List.mem_cons, List.not_mem_nil, or_false] at hf'
      rcases hf' with rfl | rfl | rfl | rfl | rfl
      · decide
      · exact n_session
      · exact n_seq
      · exact n_tag
      · exact decide_eq_true (by omega)
    · refine ⟨4, _, rfl, rfl, fun f hf => ?_⟩
      have hf' : f ∈ [Fld.n 4, Fld.n p.session, Fld.n p.tag] := hf
      simp only [List.mem_cons, List.not_mem_nil, or_false] at hf'
      rcases hf' with rfl | rfl | rfl
      · decide
      · exact n_session
      · exact n_tag
  · intro p hp
    obtain ⟨hr, hk, -⟩ := (Pk.may_iff p).1 hp
    have hk' := hk
    rcases Pk.kinds hk with h | h | h | h | h <;> unfold Pk.part at hk' <;> unfold Pk.fl <;> rw [h] at hk' ⊢
    · exact Option.some.inj hk'
    · exact Option.some.inj hk'
    · exact Option.some.inj hk'
    · exact Option.some.inj hk'
    · exact Option.some.inj hk'
  · intro k r hs hm
    unfold Pk.sh at hs
    by_cases h0 : k = 0
    · subst h0
      rw [if_pos rfl] at hs
      match r, hs with
      | [.n x, .n y], _ => rfl
    rw [if_neg h0] at hs
    by_cases h1 : k = 1
    · subst h1
      rw [if_pos rfl] at hs
      match r, hs with
      | [.n x, .n y, .n z], _ => rfl
    rw [if_neg h1] at hs
    by_cases h2 : k = 2
    · subst h2
      rw [if_pos rfl] at hs
      match r, hs with
      | [.n x, .n y, .n z], _ => rfl
    rw [if_neg h2] at hs
    by_cases h3 : k = 3
    · subst h3
      rw [if_pos rfl] at hs
      match r, hs with
      | [.n x, .n y, .n z, .t u], _ => rfl
    rw [if_neg h3] at hs
    by_cases h4 : k = 4
    · subst h4
      rw [if_pos rfl] at hs
      match r, hs with
      | [.n x, .n y], _ => rfl
    rw [if_neg h4] at hs
    exfalso
    have : r = [] := by cases r with
      | nil => rfl
      | cons a l => cases hs
    subst this
    obtain ⟨_, hk, _⟩ := (Pk.may_iff _).1 hm
    rcases Pk.kinds hk with h | h | h | h | h
    · exact h0 h
    · exact h1 h
    · exact h2 h
    · exact h3 h
    · exact h4 h
def Pk.putS (p : Pk) : ByteArray := if p.may then p.put else ⟨#[]⟩
def Pk.putE (p : Pk) : Int := if p.may then 0 else 400
def Pk.getP (t : ByteArray) : Pk := (Pk.get t).getD Pk.zero
def Pk.getE (t : ByteArray) : Int := if (Pk.get t).isSome then 0 else 400
end Go.Proofs.YthbnkejjipiaaaaDoor
