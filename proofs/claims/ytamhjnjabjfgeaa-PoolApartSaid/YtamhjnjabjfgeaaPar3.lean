/- The reference's with: another pool with another address in a place. Condition: the row's size. -/
import Derived.Test.YtamhjnjabjfgeaaPar2
namespace Go.Proofs.Ytamhjnjabjfgeaa
open Go Go.RowKit

set_option maxRecDepth 100000 in
set_option maxHeartbeats 1000000 in
theorem rwith {w : World} {ao : Option Addr} {n cap : Nat} {es : List Pa} (hes : PaIn [] w ao n es) (hn : n ≤ 5864062014800) {k : Nat} (hk : k < es.length) (vb : Bool) (vl vu : Int) :
    Calls Try.prog 33 #[.slice ao n cap, .int .i64 k, .agg #[.bool vb, .int .i64 vl, .int .i64 vu]] w fun e w' => ∃ a2 c2, e = .returned (.slice a2 n c2) ∧ At w ((rowE TPa 3 (.slice a2 n c2) es.length (paCells (es.set k ⟨vb, vl, vu⟩))).star emp) w' := by
  have hlen := hes.len
  have hB : At w ((ownA w.heap.size #[.bool vb, .int .i64 vl, .int .i64 vu] TPa).star emp) (w.alloc (.cells #[.bool vb, .int .i64 vl, .int .i64 vu] TPa)) := At.hold emp_good (At.none (Below.refl w.heap.size w)) _ _
  have hG : ((ownA w.heap.size #[.bool vb, .int .i64 vl, .int .i64 vu] TPa).star emp).Good := (ownA_good _ _ _).star emp_good
  have hr := pa_clone (cap := cap) hG hes hn (by omega) hB
  rw [show (w.alloc (.cells #[.bool vb, .int .i64 vl, .int .i64 vu] TPa)).heap.size = w.heap.size + 1 by simp] at hr
  have HR := Lib.hid hr
  have HSET := Lib.hid (fun (w1 : World) (g c2 : Nat) (h : At w ((rowE TPa 3 (.slice (some ⟨g, 0, Option.none⟩) n c2) es.length (paCells es)).star ((ownA w.heap.size #[.bool vb, .int .i64 vl, .int .i64 vu] TPa).star emp)) w1) => And.intro (h.paSet hG hk ⟨vb, vl, vu⟩) h.drop.own)
  have hkI : (k : Int) < (n : Int) := by omega
  clear hes hlen hB hG hr
  generalize es.getD k Pa.none = z at HSET
  go_enter Try.func33, Try.ntmps33
  go_wp2_with (at_builtin; obtain ⟨g, c2, w2, hrun, hS⟩ := HR.out; refine pa_app rfl _ _ rfl rfl rfl hrun ?_; obtain ⟨⟨⟨x0, x1, x2⟩, xf, xS⟩, ⟨y, yf, -⟩⟩ := HSET.out _ _ _ hS; have f0 := xf (k * 3); have f1 := xf (k * 3 + 1); have f2 := xf (k * 3 + 2); have y0 := y 0; have y1 := y 1; have y2 := y 2; have HX := Lib.hid xS; clear xS xf hS hrun y yf)
  go_ret
  refine ⟨_, _, rfl, ?_⟩
  have h := (HX.out.imp (Ass.imp.swap _ _ _)).drop
  rw [List.length_set] at h
  exact h
end Go.Proofs.Ytamhjnjabjfgeaa
