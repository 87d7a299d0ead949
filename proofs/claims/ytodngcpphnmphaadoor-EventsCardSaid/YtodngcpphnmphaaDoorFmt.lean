/- Plain mathematics of things as bytes: a row of parts, each a number or a text, is read back; what is read is what stands there; no such bytes begin others. No program is named. -/
import Derived.Test.YtodngcpphnmphaaDoorFtxt
namespace Go.Proofs.YtodngcpphnmphaaDoor
open Go

/-- A part: a number or a text. -/
inductive Fld | n (x : Int) | t (s : ByteArray)
def Fld.isT : Fld → Bool
  | .n _ => false
  | .t _ => true
def Fld.ok : Fld → Bool
  | .n x => okNum x
  | .t s => decide (s.size ≤ 65536)
def Fld.enc : Fld → ByteArray
  | .n x => numS x
  | .t s => textS s
def encL : List Fld → ByteArray
  | [] => ⟨#[]⟩
  | f :: r => f.enc ++ encL r
/-- Reading parts of these forms from a place. -/
def rdL (s : ByteArray) : Int → List Bool → Option (List Fld × Int)
  | a, [] => some ([], a)
  | a, false :: r => if getE s a = 0 then (rdL s (getTo s a) r).map (fun x => (Fld.n (getX s a) :: x.1, x.2)) else none
  | a, true :: r => if txtE s a = 0 then (rdL s (txtTo s a) r).map (fun x => (Fld.t (txtS s a) :: x.1, x.2)) else none

theorem rdL_at (fs : List Fld) (h : ∀ f ∈ fs, f.ok = true) (P R : ByteArray) : rdL ((P ++ encL fs) ++ R) P.size (fs.map Fld.isT) = some (fs, ((P.size + (encL fs).size : Nat) : Int)) := by
  induction fs generalizing P with
  | nil => show some (([] : List Fld), (P.size : Int)) = some ([], ((P.size + 0 : Nat) : Int)); rfl
  | cons f r ih =>
    have hr := ih (fun g hg => h g (List.mem_cons_of_mem _ hg)) (P ++ f.enc)
    have e : (P ++ encL (f :: r)) ++ R = ((P ++ f.enc) ++ encL r) ++ R := by rw [encL, ba_assoc P f.enc (encL r)]
    have e2 : (P ++ encL (f :: r)) ++ R = (P ++ f.enc) ++ (encL r ++ R) := by rw [e, ba_assoc (P ++ f.enc)]
    have hf := h f (by simp)
    cases f with
    | n x =>
      obtain ⟨x0, x1⟩ := (okNum_iff x).1 hf
      obtain ⟨g1, g2, g3⟩ := get_at P (encL r ++ R) x x0 x1
      rw [List.map_cons, show Fld.isT (.n x) = false from rfl, rdL]
      have e3 : (P ++ encL (.n x :: r)) ++ R = (P ++ numS x) ++ (encL r ++ R) := e2
      rw [e3, if_pos g1, g3, g2]
      rw [show (P ++ numS x) ++ (encL r ++ R) = ((P ++ Fld.enc (.n x)) ++ encL r) ++ R from (ba_assoc (P ++ numS x) (encL r) R).symm]
      rw [ByteArray.size_append, show (Fld.enc (.n x)) = numS x from rfl] at hr
      rw [show (Fld.enc (.n x)) = numS x from rfl, hr]
      rw [encL, ByteArray.size_append, show (Fld.enc (.n x)) = numS x from rfl]
      simp; omega
    | t u =>
      have hu : u.size ≤ 65536 := by simpa [Fld.ok] using hf
      obtain ⟨g1, g2, g3⟩ := txt_at P (encL r ++ R) u hu
      rw [List.map_cons, show Fld.isT (.t u) = true from rfl, rdL]
      have e3 : (P ++ encL (.t u :: r)) ++ R = (P ++ textS u) ++ (encL r ++ R) := e2
      rw [e3, if_pos g1, g3, g2]
      rw [show (P ++ textS u) ++ (encL r ++ R) = ((P ++ Fld.enc (.t u)) ++ encL r) ++ R from (ba_assoc (P ++ textS u) (encL r) R).symm]
      rw [ByteArray.size_append, show (Fld.enc (.t u)) = textS u from rfl] at hr
      rw [show (Fld.enc (.t u)) = textS u from rfl, hr]
      rw [encL, ByteArray.size_append, show (Fld.enc (.t u)) = textS u from rfl]
      simp; omega

theorem ext_cat (s : ByteArray) {a b c : Nat} (h1 : a ≤ b) (h2 : b ≤ c) : s.extract a b ++ s.extract b c = s.extract a c := by
  apply ByteArray.ext
  apply Array.toList_inj.1
  rw [data_app, Lib.extract_eq, Lib.extract_eq, Lib.extract_eq]
  show (s.data.toList.drop a).take (b - a) ++ (s.data.toList.drop b).take (c - b) = (s.data.toList.drop a).take (c - a)
  rw [show c - a = (b - a) + (c - b) by omega, List.take_add, List.drop_drop, show a + (b - a) = b by omega]
/-- What is read is what stands there. -/
theorem rdL_back (s : ByteArray) : ∀ (sh : List Bool) (a : Nat) (fs : List Fld) (b : Int), a ≤ s.size → rdL s a sh = some (fs, b) →
    fs.map Fld.isT = sh ∧ (∀ f ∈ fs, f.ok = true) ∧ ∃ e : Nat, b = e ∧ a ≤ e ∧ e ≤ s.size ∧ s.extract a e = encL fs := by
  intro sh
  induction sh with
  | nil =>
    intro a fs b ha h
    simp only [rdL, Option.some.injEq, Prod.mk.injEq] at h
    obtain ⟨rfl, rfl⟩ := h
    refine ⟨rfl, (fun f hf => by cases hf), a, rfl, Nat.le_refl _, ha, ?_⟩
    rw [Lib.extract_eq]; simp [encL]
  | cons c r ih =>
    intro a fs b ha h
    cases c with
    | false =>
      rw [rdL] at h
      split at h
      · rename_i hE
        obtain ⟨b0, b1, b2, b3, b4⟩ := get_bd hE
        obtain ⟨m, hm⟩ : ∃ m : Nat, getTo s a = m := ⟨(getTo s a).toNat, by omega⟩
        have hb := num_back hE
        rw [hm] at h hb b3 b4
        cases hr : rdL s (m : Int) r with
        | none => rw [hr] at h; cases h
        | some y =>
          obtain ⟨fs', b'⟩ := y
          rw [hr] at h
          simp only [Option.map_some, Option.some.injEq, Prod.mk.injEq] at h
          obtain ⟨rfl, rfl⟩ := h
          obtain ⟨h1, h2, e, rfl, h3, h4, h5⟩ := ih m fs' b' (by omega) hr
          refine ⟨by rw [List.map_cons, h1]; rfl, ?_, e, rfl, by omega, h4, ?_⟩
          · intro f hf
            rcases List.mem_cons.1 hf with rfl | hf
            · exact (okNum_iff _).2 ⟨b0, b1⟩
            · exact h2 f hf
          · rw [encL, ← h5, show (Fld.n (getX s (a : Int))).enc = numS (getX s (a : Int)) from rfl, ← hb]
            simp only [Int.toNat_natCast]
            exact (ext_cat s (by omega) h3).symm
      · cases h
    | true =>
      rw [rdL] at h
      split at h
      · rename_i hE
        obtain ⟨m, hm, hb3, hb4, hb5, hb6⟩ := txt_back hE
        rw [hm] at h
        cases hr : rdL s (m : Int) r with
        | none => rw [hr] at h; cases h
        | some y =>
          obtain ⟨fs', b'⟩ := y
          rw [hr] at h
          simp only [Option.map_some, Option.some.injEq, Prod.mk.injEq] at h
          obtain ⟨rfl, rfl⟩ := h
          obtain ⟨h1, h2, e, rfl, h3, h4, h5⟩ := ih m fs' b' (by omega) hr
          refine ⟨by rw [List.map_cons, h1]; rfl, ?_, e, rfl, by omega, h4, ?_⟩
          · intro f hf
            rcases List.mem_cons.1 hf with rfl | hf
            · simpa [Fld.ok] using hb5
            · exact h2 f hf
          · rw [encL, ← h5, show (Fld.t (txtS s (a : Int))).enc = textS (txtS s (a : Int)) from rfl, ← hb6]
            exact (ext_cat s (by omega) h3).symm
      · cases h
end Go.Proofs.YtodngcpphnmphaaDoor
