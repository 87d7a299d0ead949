/- Plain mathematics of commands: which may be, their bytes, and reading them. No program is named. -/
import Derived.Test.YtpleefloaoljfaaDoorCodec
namespace Go.Proofs.YtpleefloaoljfaaDoor
open Go

structure Ad where
  kind : Int
  user : Int
  key : Int
  secret : Int
  quota : Int
  session : Int
deriving DecidableEq
def Ad.val (p : Ad) : Value := .agg #[.int .i64 p.kind, .int .i64 p.user, .int .i64 p.key, .int .i64 p.secret, .int .i64 p.quota, .int .i64 p.session]
def Ad.zero : Ad := ⟨0, 0, 0, 0, 0, 0⟩
/-- The parts of its kind alone. -/
def Ad.part (p : Ad) : Option Ad :=
  if p.kind = 0 then some ⟨0, p.user, p.key, p.secret, p.quota, 0⟩
  else if p.kind = 1 then some ⟨1, p.user, 0, 0, 0, 0⟩
  else if p.kind = 2 then some ⟨2, p.user, 0, 0, 0, 0⟩
  else if p.kind = 3 then some ⟨3, 0, 0, 0, 0, 0⟩
  else if p.kind = 4 then some ⟨4, 0, 0, 0, 0, p.session⟩
  else none
def Ad.rng (p : Ad) : Bool := decide (0 ≤ p.user) && decide (p.user ≤ 7) && decide (0 ≤ p.quota) && decide (p.quota ≤ 1048576) && okNum p.key && okNum p.secret && okNum p.session
def Ad.lim (_p : Ad) : Bool := true
def Ad.may (p : Ad) : Bool := p.rng && decide (p.part = some p) && p.lim
def Ad.fl (p : Ad) : List Fld :=
  if p.kind = 0 then [.n 0, .n p.user, .n p.key, .n p.secret, .n p.quota]
  else if p.kind = 1 then [.n 1, .n p.user]
  else if p.kind = 2 then [.n 2, .n p.user]
  else if p.kind = 3 then [.n 3]
  else if p.kind = 4 then [.n 4, .n p.session]
  else [.n p.kind]
def Ad.sh (k : Int) : List Bool := if k = 0 then [false, false, false, false] else if k = 1 then [false] else if k = 2 then [false] else if k = 3 then [] else if k = 4 then [false] else []
def Ad.mk' : List Fld → Ad
  | [.n k, .n x, .n y, .n z, .n u] => ⟨k, x, y, z, u, 0⟩
  | [.n k, .n x] => if k = 1 then ⟨1, x, 0, 0, 0, 0⟩ else if k = 2 then ⟨2, x, 0, 0, 0, 0⟩ else ⟨k, 0, 0, 0, 0, x⟩
  | .n k :: _ => ⟨k, 0, 0, 0, 0, 0⟩
  | _ => Ad.zero
def Ad.put (p : Ad) : ByteArray := encL p.fl
def Ad.get (t : ByteArray) : Option Ad := getK Ad.sh Ad.mk' Ad.may t

theorem Ad.rng_iff (p : Ad) : p.rng = true ↔ 0 ≤ p.user ∧ p.user ≤ 7 ∧ 0 ≤ p.quota ∧ p.quota ≤ 1048576 ∧ okNum p.key = true ∧ okNum p.secret = true ∧ okNum p.session = true := by
  unfold Ad.rng; simp only [Bool.and_eq_true, decide_eq_true_eq, and_assoc]
theorem Ad.may_iff (p : Ad) : p.may = true ↔ p.rng = true ∧ p.part = some p ∧ p.lim = true := by unfold Ad.may; simp [and_assoc]
theorem Ad.kinds {p : Ad} (h : p.part = some p) : p.kind = 0 ∨ p.kind = 1 ∨ p.kind = 2 ∨ p.kind = 3 ∨ p.kind = 4 := by
  unfold Ad.part at h
  by_cases h0 : p.kind = 0
  · exact .inl h0
  by_cases h1 : p.kind = 1
  · exact .inr (.inl h1)
  by_cases h2 : p.kind = 2
  · exact .inr (.inr (.inl h2))
  by_cases h3 : p.kind = 3
  · exact .inr (.inr (.inr (.inl h3)))
  by_cases h4 : p.kind = 4
  · exact .inr (.inr (.inr (.inr h4)))
  rw [if_neg h0, if_neg h1, if_neg h2, if_neg h3, if_neg h4] at h; cases h
theorem Ad.codec : Codec Ad.may Ad.put Ad.get := by
  refine codec_of (fl := Ad.fl) ?_ ?_ ?_
  · intro p hp
    obtain ⟨hr, hk, -⟩ := (Ad.may_iff p).1 hp
    obtain ⟨l_user, u_user, l_quota, u_quota, n_key, n_secret, n_session⟩ := (Ad.rng_iff p).1 hr
    have n_user : okNum p.user = true := (okNum_iff _).2 ⟨l_user, by omega⟩
    have n_quota : okNum p.quota = true := (okNum_iff _).2 ⟨l_quota, by omega⟩
    rcases Ad.kinds hk with h | h | h | h | h <;> unfold Ad.fl <;> rw [h]
    · refine ⟨0, _, rfl, rfl, fun f hf => ?_⟩
      have hf' : f ∈ [Fld.n 0, Fld.n p.user, Fld.n p.key, Fld.n p.secret, Fld.n p.quota] := hf
      simp only [List.mem_cons, List.not_mem_nil, or_false] at hf'
      rcases hf' with rfl | rfl | rfl | rfl | rfl
      · decide
      · exact n_user
      · exact n_key
      · exact n_secret
      · exact n_quota
    · refine ⟨1, _, rfl, rfl, fun f hf => ?_⟩
      have hf' : f ∈ [Fld.n 1, Fld.n p.user] := hf
      simp only [List.mem_cons, List.not_mem_nil, or_false] at hf'
      rcases hf' with rfl | rfl
      · decide
      · exact n_user
    · refine ⟨2, _, rfl, rfl, fun f hf => ?_⟩
      have hf' : f ∈ [Fld.n 2, Fld.n p.user] := hf
      simp only [List.mem_cons, List.not_mem_nil, or_false] at hf'
      rcases hf' with rfl | rfl
      · decide
      · exact n_user
    · refine ⟨3, _, rfl, rfl, fun f hf => ?_⟩
      have hf' : f ∈ [Fld.n 3] := hf
      simp only [List.mem_cons, List.not_mem_nil, or_false] at hf'
      subst hf'
      · decide
    · refine ⟨4, _, rfl, rfl, fun f hf => ?_⟩
      have hf' : f ∈ [Fld.n 4, Fld.n p.session] := hf
      simp only [List.mem_cons, List.not_mem_nil, or_false] at hf'
      rcases hf' with rfl | rfl
      · decide
      · exact n_session
  · intro p hp
    obtain ⟨hr, hk, -⟩ := (Ad.may_iff p).1 hp
    have hk' := hk
    rcases Ad.kinds hk with h | h | h | h | h <;> unfold Ad.part at hk' <;> unfold Ad.fl <;> rw [h] at hk' ⊢
    · exact Option.some.inj hk'
    · exact Option.some.inj hk'
    · exact Option.some.inj hk'
    · exact Option.some.inj hk'
    · exact Option.some.inj hk'
  · intro k r hs hm
    unfold Ad.sh at hs
    by_cases h0 : k = 0
    · subst h0
      rw [if_pos rfl] at hs
      match r, hs with
      | [.n x, .n y, .n z, .n u], _ => rfl
    rw [if_neg h0] at hs
    by_cases h1 : k = 1
    · subst h1
      rw [if_pos rfl] at hs
      match r, hs with
      | [.n x], _ => rfl
    rw [if_neg h1] at hs
    by_cases h2 : k = 2
    · subst h2
      rw [if_pos rfl] at hs
      match r, hs with
      | [.n x], _ => rfl
    rw [if_neg h2] at hs
    by_cases h3 : k = 3
    · subst h3
      rw [if_pos rfl] at hs
      match r, hs with
      | [], _ => rfl
    rw [if_neg h3] at hs
    by_cases h4 : k = 4
    · subst h4
      rw [if_pos rfl] at hs
      match r, hs with
      | [.n x], _ => rfl
    rw [if_neg h4] at hs
    exfalso
    have : r = [] := by cases r with
      | nil => rfl
      | cons a l => cases hs
    subst this
    obtain ⟨_, hk, _⟩ := (Ad.may_iff _).1 hm
    rcases Ad.kinds hk with h | h | h | h | h
    · exact h0 h
    · exact h1 h
    · exact h2 h
    · exact h3 h
    · exact h4 h
def Ad.putS (p : Ad) : ByteArray := if p.may then p.put else ⟨#[]⟩
def Ad.putE (p : Ad) : Int := if p.may then 0 else 600
def Ad.getP (t : ByteArray) : Ad := (Ad.get t).getD Ad.zero
def Ad.getE (t : ByteArray) : Int := if (Ad.get t).isSome then 0 else 600
end Go.Proofs.YtpleefloaoljfaaDoor
