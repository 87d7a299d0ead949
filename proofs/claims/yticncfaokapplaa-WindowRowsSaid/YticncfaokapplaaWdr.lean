/- For WindowRows: two windows, a row of yes-or-noes and a row of numbers of the law's own; numbers that come in a row, and backwards. No condition. -/
import Derived.Test.YticncfaokapplaaWdb
namespace Go.Proofs.Yticncfaokapplaa
open Go Go.RowKit

theorem zero_of2 {P : Program} {t : TypeId} {z : Value} (h : (P.info? t).map (fun i => i.zero) = some (some z)) (W : World) : (zeroValue t).run P W = .ok z W := by
  cases e : P.info? t with
  | none => rw [e] at h; cases h
  | some i =>
    rw [e] at h
    have hz : i.zero = some z := by simpa using h
    simp [zeroValue, typeInfo, e, hz]
abbrev TS32 : TypeId := 39
theorem zero32 (W : World) : (zeroValue TS32).run Try.prog W = .ok (.agg (bools (List.replicate 32 false))) W := zero_of2 (by kernel_rfl) W
/-- The law's memory. -/
abbrev WQ (v : Value) (ns : List Int) (p : Nat) (hu bu hd bd : Int) (ls : List Bool) : Ass :=
  (rowA 3 v (vals ns)).star ((ownA p #[.int .i64 hu, .int .i64 bu] TWd).star ((ownA (p + 1) #[.int .i64 hd, .int .i64 bd] TWd).star ((ownA (p + 1 + 1) (bools ls) TS32).star emp)))
theorem wqC (p : Nat) (hu bu hd bd : Int) (ls : List Bool) : ((ownA p #[.int .i64 hu, .int .i64 bu] TWd).star ((ownA (p + 1) #[.int .i64 hd, .int .i64 bd] TWd).star ((ownA (p + 1 + 1) (bools ls) TS32).star emp))).Good := (ownA_good _ _ _).star ((ownA_good _ _ _).star ((ownA_good _ _ _).star emp_good))
theorem WQ_good (v : Value) (ns : List Int) (p : Nat) (hu bu hd bd : Int) (ls : List Bool) : (WQ v ns p hu bu hd bd ls).Good := (rowA_good _ _ _).star (wqC _ _ _ _ _ _)
section
variable {w0 w w' : World} {v : Value} {ns : List Int} {p : Nat} {hu bu hd bd : Int} {ls : List Bool}
theorem At.qlay (hS : At w0 (WQ v ns p hu bu hd bd ls) w) (hb : Below w.heap.size w w') : At w0 (WQ v ns p hu bu hd bd ls) w' := hS.lay (WQ_good _ _ _ _ _ _ _ _) hb
theorem At.qlay1 (hS : At w0 (WQ v ns p hu bu hd bd ls) w) (o : Obj) : At w0 (WQ v ns p hu bu hd bd ls) (w.alloc o) := hS.qlay ((Below.refl _ _).alloc (Nat.le_refl _) o)
theorem At.qu (hS : At w0 (WQ v ns p hu bu hd bd ls) w) : Blk w p #[.int .i64 hu, .int .i64 bu] := by
  obtain ⟨a, b, c⟩ := hS.drop.own
  exact ⟨a, b, c⟩
theorem At.qd (hS : At w0 (WQ v ns p hu bu hd bd ls) w) : Blk w (p + 1) #[.int .i64 hd, .int .i64 bd] := by
  obtain ⟨a, b, c⟩ := hS.drop.drop.own
  exact ⟨a, b, c⟩
theorem At.qs (hS : At w0 (WQ v ns p hu bu hd bd ls) w) : Blk w (p + 1 + 1) (bools ls) := by
  obtain ⟨a, b, c⟩ := hS.drop.drop.drop.own
  exact ⟨a, b, c⟩
theorem At.qsetU (hS : At w0 (WQ v ns p hu bu hd bd ls) w) (h' b' : Int) : At w0 (WQ v ns p h' b' hd bd ls) ((w.setCell ⟨p, 0, Option.none⟩ (.int .i64 h')).setCell ⟨p, 1, Option.none⟩ (.int .i64 b')) := by
  have g : ((ownA (p + 1) #[.int .i64 hd, .int .i64 bd] TWd).star ((ownA (p + 1 + 1) (bools ls) TS32).star emp)).Good := (ownA_good _ _ _).star ((ownA_good _ _ _).star emp_good)
  exact (hS.poke1 (rowA_good _ _ _) g 0 (.int .i64 h')).poke1 (rowA_good _ _ _) g 1 (.int .i64 b')
theorem At.qsetD (hS : At w0 (WQ v ns p hu bu hd bd ls) w) (h' b' : Int) : At w0 (WQ v ns p hu bu h' b' ls) ((w.setCell ⟨p + 1, 0, Option.none⟩ (.int .i64 h')).setCell ⟨p + 1, 1, Option.none⟩ (.int .i64 b')) := by
  have g : ((rowA 3 v (vals ns)).star ((ownA p #[.int .i64 hu, .int .i64 bu] TWd).star ((ownA (p + 1 + 1) (bools ls) TS32).star emp))).Good := (rowA_good _ _ _).star ((ownA_good _ _ _).star ((ownA_good _ _ _).star emp_good))
  exact (((hS.imp (Ass.imp.up2 _ _ _ _)).poke g 0 (.int .i64 h')).poke g 1 (.int .i64 b')).imp (Ass.imp.dn2 _ _ _ _)
theorem At.qsetS (hS : At w0 (WQ v ns p hu bu hd bd ls) w) (i : Nat) (x : Bool) : At w0 (WQ v ns p hu bu hd bd (ls.set i x)) (w.setCell ⟨p + 1 + 1, i, Option.none⟩ (.bool x)) := by
  have g : ((rowA 3 v (vals ns)).star ((ownA p #[.int .i64 hu, .int .i64 bu] TWd).star ((ownA (p + 1) #[.int .i64 hd, .int .i64 bd] TWd).star emp))).Good := (rowA_good _ _ _).star ((ownA_good _ _ _).star ((ownA_good _ _ _).star emp_good))
  have := ((hS.imp (Ass.imp.up3 _ _ _ _ _)).poke g i (.bool x)).imp (Ass.imp.dn3 _ _ _ _ _)
  rwa [bools_set] at this
theorem At.qnum {ao : Option Addr} {k cap : Nat} (hS : At w0 (WQ (.slice ao k cap) ns p hu bu hd bd ls) w) {j : Nat} (hj : j < ns.length) : ∃ g, ao = some ⟨g, 0, Option.none⟩ ∧ w.cell? ⟨g, j, Option.none⟩ = some (.int .i64 (ns.getD j 0)) := by
  obtain ⟨g, c, e, hc⟩ := At.num hS hj
  simp at e
  exact ⟨g, e.1, hc⟩
theorem At.qshape (hS : At w0 (WQ v ns p hu bu hd bd ls) w) : ∃ ao cap, v = .slice ao ns.length cap := by
  obtain ⟨ao, cap, e⟩ := rowI_shape hS.row
  exact ⟨ao, cap, by rw [e]; simp⟩
end
theorem At.qstart {w0 w : World} (hb : Below w0.heap.size w0 w) (hu bu hd bd : Int) (ls : List Bool) : At w0 (WQ (.slice Option.none 0 0) [] w.heap.size hu bu hd bd ls) (((w.alloc (.cells #[.int .i64 hu, .int .i64 bu] TWd)).alloc (.cells #[.int .i64 hd, .int .i64 bd] TWd)).alloc (.cells (bools ls) TS32)) := by
  have h1 := At.hold emp_good (At.none hb) #[.int .i64 hu, .int .i64 bu] TWd
  have h2 := At.hold ((ownA_good _ _ _).star emp_good) h1 #[.int .i64 hd, .int .i64 bd] TWd
  have h3 := At.hold ((ownA_good _ _ _).star ((ownA_good _ _ _).star emp_good)) h2 (bools ls) TS32
  have e1 : (w.alloc (.cells #[.int .i64 hu, .int .i64 bu] TWd)).heap.size = w.heap.size + 1 := by simp
  have e2 : ((w.alloc (.cells #[.int .i64 hu, .int .i64 bu] TWd)).alloc (.cells #[.int .i64 hd, .int .i64 bd] TWd)).heap.size = w.heap.size + 1 + 1 := by simp
  rw [e1] at h2 h3
  rw [e2] at h3
  exact At.row0 3 (h3.imp ((Ass.imp.up2 _ _ _ _).trans ((Ass.imp.swap _ _ _).under _)))
/-- Numbers of a row: each within so many of at, each once, each marked. -/
def Nums (a : Int) (ls : List Bool) (ns : List Int) : Prop := ns.Nodup ∧ ∀ n ∈ ns, a ≤ n ∧ n < a + 32 ∧ ls.getD (n - a).toNat false = true
theorem Nums.snoc {a : Int} {ls : List Bool} {ns : List Int} (h : Nums a ls ns) {k : Nat} (hk : k < 32) (hl : ls.length = 32) (hn : ls.getD k false = false) : Nums a (ls.set k true) (ns ++ [a + (k : Int)]) := by
  obtain ⟨h1, h2⟩ := h
  have hnot : a + (k : Int) ∉ ns := fun c => by
    obtain ⟨_, _, e⟩ := h2 _ c
    rw [show (a + (k : Int) - a).toNat = k by omega, hn] at e
    cases e
  refine ⟨List.nodup_append.2 ⟨h1, by simp, fun x hx y hy => by
    rw [List.mem_singleton] at hy
    subst hy
    intro e
    subst e
    exact hnot hx⟩, fun n hx => ?_⟩
  rcases List.mem_append.1 hx with c | c
  · obtain ⟨a1, a2, a3⟩ := h2 n c
    refine ⟨a1, a2, ?_⟩
    by_cases e : (n - a).toNat = k
    · rw [e]; simp [List.getD, hl, hk]
    · simp only [List.getD] at a3 ⊢
      rw [List.getElem?_set_ne (fun c => e c.symm)]
      exact a3
  · rw [List.mem_singleton] at c
    subst c
    refine ⟨by omega, by omega, ?_⟩
    rw [show (a + (k : Int) - a).toNat = k by omega]
    simp [List.getD, hl, hk]
theorem memC_cons (ns : List Int) (s n : Int) : (memC ns n || decide (n = s)) = memC (s :: ns) n := by
  unfold memC
  rw [← Bool.decide_or]
  congr 1
  simp [or_comm]
theorem at_take {ns : List Int} {i : Nat} (hi : i < ns.length) {x : Int} (hx : ns.getD i 0 = x) : ns.take (i + 1) = ns.take i ++ [x] := by
  subst hx
  rw [List.take_succ_eq_append_getElem hi]
  simp [List.getD, hi]
theorem at_drop {ns : List Int} {i : Nat} (hi : i < ns.length) {x : Int} (hx : ns.getD i 0 = x) : ns.drop i = x :: ns.drop (i + 1) := by
  subst hx
  rw [List.drop_eq_getElem_cons hi]
  simp [List.getD, hi]
theorem nums_take {a : Int} {ls : List Bool} {ns : List Int} (h : Nums a ls ns) {i : Nat} (hi : i < ns.length) {x : Int} (hx : ns.getD i 0 = x) : memC (ns.take i) x = false ∧ memC (ns.drop (i + 1)) x = false ∧ a ≤ x ∧ x < a + 32 := by
  have hxm : x ∈ ns := by rw [← hx]; simp [List.getD, hi]
  have hnd : (ns.take i ++ x :: ns.drop (i + 1)).Nodup := by
    rw [← at_drop hi hx, List.take_append_drop]; exact h.1
  obtain ⟨n1, n2, n3⟩ := List.nodup_append.1 hnd
  refine ⟨decide_eq_false (fun c => n3 x c x (by simp) rfl), decide_eq_false (fun c => (List.nodup_cons.1 n2).1 c), (h.2 x hxm).1, (h.2 x hxm).2.1⟩
/-- None of them is too far behind. -/
theorem nums_high {a : Int} {ls : List Bool} {ns ms : List Int} (h : Nums a ls ns) (hm : ∀ n ∈ ms, n ∈ ns) {H : Int} {B : Nat} (w : Win (memC ms) H B) (a0 : 0 ≤ a) : H - 32 < a := by
  rcases w with ⟨rfl, _⟩ | ⟨_, _, hc, _⟩
  · omega
  · have : H ∈ ms := by simpa [memC] using hc
    have := h.2 H (hm H this)
    omega
end Go.Proofs.Yticncfaokapplaa
