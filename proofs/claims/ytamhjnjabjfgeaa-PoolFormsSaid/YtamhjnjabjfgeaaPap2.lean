/- Package pool's with, over slices.Clone: another pool with another address in a place. Condition: the row's size. -/
import Derived.Test.YtamhjnjabjfgeaaPar3
import Derived.Lib.SliceRun
namespace Go.Proofs.Ytamhjnjabjfgeaa
open Go Go.RowKit

set_option maxRecDepth 100000 in
set_option maxHeartbeats 1000000 in
/-- slices.Clone of a row that is not empty. -/
theorem psclone {w0 w : World} {C : Ass} (hC : C.Good) {ao : Option Addr} {n cap : Nat} {es : List Pa} (hes : PaIn [] w0 ao n es) (hn : n ≤ 5864062014800) (h1n : 1 ≤ n) (hA : At w0 C w) :
    Calls Try.prog 36 #[.slice ao n cap] w fun e w' => ∃ g c2, e = .returned (.slice (some ⟨g, 0, none⟩) n c2) ∧ At w0 ((rowE TPa 3 (.slice (some ⟨g, 0, none⟩) n c2) es.length (paCells es)).star C) w' := by
  have HR := Lib.hid (pa_clone (cap := cap) hC hes hn h1n hA)
  obtain ⟨b, off, rfl⟩ : ∃ b off, ao = some ⟨b, off, none⟩ := by
    rcases hes.row with c | ⟨b, off, e, _⟩
    · omega
    · exact ⟨b, off, e⟩
  have hq := Lib.run_eql_slice_nil (P := Try.prog) w 22 TPa (some ⟨b, off, none⟩) n cap 0 0 Try.underlying22
  clear hes hn h1n hA
  go_enter Try.func36, Try.ntmps36
  go_wp2_with (at_builtin; obtain ⟨g, c2, w2, hrun, hS⟩ := HR.out; refine pa_app rfl _ _ rfl rfl rfl hrun ?_)
  go_ret
  exact ⟨g, c2, rfl, hS⟩
set_option maxRecDepth 100000 in
set_option maxHeartbeats 1000000 in
theorem pwith {w : World} {ao : Option Addr} {n cap : Nat} {es : List Pa} (hes : PaIn [] w ao n es) (hn : n ≤ 5864062014800) {k : Nat} (hk : k < es.length) (vb : Bool) (vl vu : Int) :
    Calls Try.prog 32 #[.slice ao n cap, .int .i64 k, .agg #[.bool vb, .int .i64 vl, .int .i64 vu]] w fun e w' => ∃ a2 c2, e = .returned (.slice a2 n c2) ∧ At w ((rowE TPa 3 (.slice a2 n c2) es.length (paCells (es.set k ⟨vb, vl, vu⟩))).star emp) w' := by
  have hlen := hes.len
  have hB : At w ((ownA w.heap.size #[.bool vb, .int .i64 vl, .int .i64 vu] TPa).star emp) (w.alloc (.cells #[.bool vb, .int .i64 vl, .int .i64 vu] TPa)) := At.hold emp_good (At.none (Below.refl w.heap.size w)) _ _
  have hG : ((ownA w.heap.size #[.bool vb, .int .i64 vl, .int .i64 vu] TPa).star emp).Good := (ownA_good _ _ _).star emp_good
  have HR := Lib.hid (psclone (cap := cap) hG hes hn (by omega) hB)
  have HSET := Lib.hid (fun (w1 : World) (g c2 : Nat) (h : At w ((rowE TPa 3 (.slice (some ⟨g, 0, Option.none⟩) n c2) es.length (paCells es)).star ((ownA w.heap.size #[.bool vb, .int .i64 vl, .int .i64 vu] TPa).star emp)) w1) => And.intro (h.paSet hG hk ⟨vb, vl, vu⟩) h.drop.own)
  have hkI : (k : Int) < (n : Int) := by omega
  clear hes hlen hB hG
  generalize es.getD k Pa.none = z at HSET
  go_enter Try.func32, Try.ntmps32
  go_wp2_with (go_at_call 36; (with_reducible refine HR.out.mono ?_); rintro e w2 ⟨g, c2, rfl, hS⟩; obtain ⟨⟨⟨x0, x1, x2⟩, xf, xS⟩, ⟨y, yf, -⟩⟩ := HSET.out _ _ _ hS; have f0 := xf (k * 3); have f1 := xf (k * 3 + 1); have f2 := xf (k * 3 + 2); have y0 := y 0; have y1 := y 1; have y2 := y 2; have HX := Lib.hid xS; clear xS xf hS y yf)
  go_ret
  refine ⟨_, _, rfl, ?_⟩
  have h := (HX.out.imp (Ass.imp.swap _ _ _)).drop
  rw [List.length_set] at h
  exact h
end Go.Proofs.Ytamhjnjabjfgeaa
