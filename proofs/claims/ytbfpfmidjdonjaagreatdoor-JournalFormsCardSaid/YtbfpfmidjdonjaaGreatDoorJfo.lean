/- Rows of events laid down; events that none may be; what a journal that is down answers. No condition. -/
import Derived.Test.YtbfpfmidjdonjaaGreatDoorBjc
namespace Go.Proofs.YtbfpfmidjdonjaaGreatDoor
open Go Go.RowKit

theorem At.litrow {C : Ass} {w0 w : World} (hC : C.Good) (h : At w0 C w) (es : List Ev) (k n : Nat) (hk : es.length = k) (hk2 : k ≤ 1000) (hn : w.heap.size = n) {cs : Array Value} (hcs : cs = (ecells es).toArray) :
    At w0 ((rowE TE 8 (.slice (some ⟨n, 0, Option.none⟩) k k) es.length (ecells es)).star C) (w.alloc (.cells cs TE)) := by
  subst hn hk hcs
  refine At.add hC h ⟨[w.heap.size], ⟨⟨ecells_len es, .inr ⟨w.heap.size, es.length, (ecells es).toArray, rfl, Nat.zero_le _, heap_alloc_new w _, Nat.le_refl _, Nat.le_trans hk2 (by decide), by simp [ecells_len], ?_⟩⟩, rfl⟩, (Tn.refl _ _).alloc _, fun k hk => .inr (by simp at hk; omega)⟩
  rw [List.toList_toArray, List.take_of_length_le (by rw [ecells_len]; exact Nat.le_refl _)]
theorem may_kind {d : Int} (hd : 1 ≤ d) : (Ev.mk (9 + d) 0 0 0 0 0 0 0).may = false := by
  cases h : (Ev.mk (9 + d) 0 0 0 0 0 0 0).may with
  | false => rfl
  | true =>
    have := Ev.kinds ((Ev.may_iff _).1 h).2.1
    simp only at this
    omega
theorem may_tick {d : Int} (hd : 1 ≤ d) : (Ev.mk 0 0 0 0 0 0 0 (-d)).may = false := by
  cases h : (Ev.mk 0 0 0 0 0 0 0 (-d)).may with
  | false => rfl
  | true =>
    have := (Ev.rng_iff _).1 ((Ev.may_iff _).1 h).1
    simp only at this
    omega
theorem may_user {d : Int} (hd : 1 ≤ d) : (Ev.mk 0 d 0 0 0 0 0 0).may = false := by
  cases h : (Ev.mk 0 d 0 0 0 0 0 0).may with
  | false => rfl
  | true =>
    have := ((Ev.may_iff _).1 h).2.1
    simp only [Ev.part, if_true, Option.some.injEq, Ev.mk.injEq] at this
    omega
theorem Safe.form {most : Int} {ts : List ByteArray} {d : Dk} {J : Jn} (h : Safe ts d J) (es : List Ev) (he : es.all Ev.may = false) : jpE most ts J d es = 1100 ∧ jpT most ts J d es = ts := by
  have hover : (J.over || d.down) = false := by rw [h.over, h.calm.up]; rfl
  unfold jpE jpT
  rw [hover, if_neg (by decide), if_pos he, if_neg (by decide), if_pos he]
  exact ⟨rfl, rfl⟩
theorem dead_put {most : Int} {ts : List ByteArray} {d : Dk} {J : Jn} (hd : d.down = true) (es : List Ev) : jpE most ts J d es = 1102 ∧ jpT most ts J d es = ts := by
  unfold jpE jpT
  rw [hd, Bool.or_true, if_pos rfl, if_pos rfl]
  exact ⟨rfl, rfl⟩
theorem dead_open {most : Int} {ts : List ByteArray} {d : Dk} (hd : d.down = true) : joE most ts d = 1102 ∧ joT most ts d = ts := by
  unfold joE joT
  rw [hd, if_pos rfl, if_pos rfl]
  exact ⟨rfl, rfl⟩
theorem small_open {most : Int} {ts : List ByteArray} : joE most ts (Dk.new 2) = 1100 ∧ joT most ts (Dk.new 2) = ts := ⟨rfl, rfl⟩
theorem Safe.dead {ts : List ByteArray} {d : Dk} {J : Jn} (h : Safe ts d J) : (d.cr 0 0).down = true ∧ (d.cr 0 0).kept = d.kept ∧ (d.cr 0 0).waits = [] := by
  unfold Dk.cr
  rw [h.calm.up, if_neg (by decide), if_pos (by decide), h.calm.dry]
  exact ⟨rfl, rfl, rfl⟩
/-- A second disk beside a book and its own. -/
theorem lawdisk {w w1 w2 : World} {pb p1 p2 q2 : Nat} {most : Int} {n m : Nat} {ts : List ByteArray} (h : At w ((BD pb p1 most ts (Dk.new n)).star emp) w1) (hp : Becomes [] ((dkA TR q2 (Dk.new m)).star ((dpA p2 (Dk.new m)).star emp)) w1 w2) : At w ((BD pb p1 most ts (Dk.new n)).star ((dpA p2 (Dk.new m)).star emp)) w2 := by
  have h1 := At.add ((BD_good _ _ _ _ _).star emp_good) h hp
  have h2 := (h1.imp (Ass.imp.assoc' _ _ _)).drop
  have h3 := h2.imp ((Ass.imp.comm _ _).trans (Ass.imp.assoc' _ _ _))
  exact h3.imp ((emp_left _).under _)
/-- The other disk beside the book. -/
theorem lawother {w w1 : World} {pb p1 p2 : Nat} {most : Int} {ts : List ByteArray} {d1 d2 : Dk} (h : At w ((BD pb p1 most ts d1).star ((dpA p2 d2).star emp)) w1) : At w ((BD pb p2 most ts d2).star emp) w1 := by
  have h1 := h.imp ((Ass.imp.assoc' _ _ _).trans (((Ass.imp.comm _ _)).under _))
  have h2 := h1.imp (Ass.imp.assoc _ _ _)
  exact lawdrop (h2.imp (Ass.imp.comm _ _)).drop
end Go.Proofs.YtbfpfmidjdonjaaGreatDoor
