/- Rings is proved: at every book, row of epochs, now and keep the calls of package ring answer as the reference says, and the samples hold. No condition. -/
import Derived.Test.YtcfibjfhmfdmkaaRings
import Derived.Test.YtcfibjfhmfdmkaaFrameI
import Derived.Test.YtcfibjfhmfdmkaaFrame0
namespace Go.Proofs.Ytcfibjfhmfdmkaa
open Go Go.ChangeShapes Go.WideShapes Go.ChangeAt Go.RowKit Go.WideMaps Go.WideElems
open Go.ChangeMaps (open_string shut_string)

set_option maxRecDepth 100000 in
theorem rings_lifted (os : Os) (started : os.Started) (H : Type) (enc : TypeId × Value → H) :
    ReturnsInHanded {} Try.checked os 3 .any (Rows.ringsSpec.pre6 enc Try.prog Try.f3 Rows.ringsRow.domain false) (Rows.ringsSpec.post enc Try.prog Try.f3 false true false false) := by
  refine returnsInHanded_of_change_sized (C := Try.checked) own0 started (by kernel_rfl) Try.func3
    (ChangeSpec.witness6 (enc := enc) (C := Try.checked) false ⟨#[], #[.int .i64 0, .slice none 0 0, .int .i64 0, .int .i64 0], []⟩ 8 (by kernel_rfl) (by kernel_rfl) (by kernel_rfl) (by kernel_rfl)) ?_
  intro W base args ds gs before hval0 hW _ hsz0 _
  have hsz : (DataW.weightsEach Try.prog (Try.f3.params.toList ++ Rows.ringsSpec.plain.varTypes Try.prog) (ds ++ gs)).all (· ≤ reachBytes) = true := hsz0
  clear hsz0
  have hval : ∀ (j : Nat) t v, Try.f3.params[j]? = some t → args[j]? = some v → Value.okWide Try.prog W .any base t v := hval0
  have hW' := hW
  obtain ⟨p, q, hA0, hV, rfl, _, _⟩ := hW
  have hA : DataW.TrodAll enc Try.prog W 0 (fun _ => true) true Try.f3.params.toList args.toList ds p := hA0
  rw [Try.params3] at hA hval hsz
  obtain ⟨v0, v1, v2, v3, d0, d1, d2, d3, p0, p1, p2, p3, rfl, rfl, rfl, h0, h1, h2, h3⟩ := trodAll_four hA
  obtain ⟨rfl, rfl⟩ := trodVars_none hV
  obtain ⟨most, rfl, rfl, rfl, wmost⟩ := open_int Try.underlying3 (hval 0 3 v0 rfl rfl) h0
  obtain ⟨epochsa, epochslen, epochscap, rfl⟩ := okWide_slice Try.underlying22 (hval 1 22 v1 rfl rfl)
  obtain ⟨now, rfl, rfl, rfl, wnow⟩ := open_int Try.underlying3 (hval 2 3 v2 rfl rfl) h2
  obtain ⟨keep, rfl, rfl, rfl, wkeep⟩ := open_int Try.underlying3 (hval 3 3 v3 rfl rfl) h3
  clear hA0 hval0
  obtain ⟨most0, most1⟩ := bounds_i64 wmost
  obtain ⟨epochs, epochsl, ia_epochs⟩ := iarg_of h1 (fun elems spare hd => by
    have := sized_slice hsz (j := 1) (t := 22) (e := 3) (elems := elems) (spare := spare) rfl (by rw [← hd]; rfl) Try.underlying22
    rw [bytesI] at this
    unfold reachBytes at this
    omega)
  subst epochsl
  obtain ⟨now0, now1⟩ := bounds_i64 wnow
  obtain ⟨keep0, keep1⟩ := bounds_i64 wkeep
  have e1 : Rows.ringsSpec.fn H ([.lit (.int .i64 most), d1, .lit (.int .i64 now), .lit (.int .i64 keep)] ++ []) = { results := [.lit (.bool true)], args := [.lit (.int .i64 most), d1, .lit (.int .i64 now), .lit (.int .i64 keep)] } := by simp [Rows.ringsSpec]
  refine (rings_walk most now keep epochsa epochscap epochs W ia_epochs).mono fun e W' ⟨he, hw⟩ => ?_
  subst he
  refine ⟨_, rfl, _, _, _, [], ([] ++ (p1 ++ ([] ++ []))), [], hW', ?_, ?_, ?_, hw.frame _, fun h => by cases h⟩
  · rw [e1]; exact trodAll_mk1 (shut_bool Try.underlying4 true)
  · rw [e1]; exact trodAll_mk4 (shut_int Try.underlying3 wmost) (Below.trod laidOut0 ints_read ints_row h1 hw (fun x hx => by simpa using hW'.lt x (by simp [hx]))) (shut_int Try.underlying3 wnow) (shut_int Try.underlying3 wkeep)
  · rw [e1]; rfl

theorem rings_holds : Rows.RingsSaid :=
  OpenClaim.holds_of_wide 3 Try.f3 rfl rfl rfl rfl rfl rfl rfl ⟨rfl, rfl, rfl, rfl, rfl⟩ rfl rfl rfl rfl rfl (by kernel_rfl) Try.func3 (by kernel_rfl)
    (of_decide_eq_true (by kernel_rfl)) (by unfold Func.isWrapper; first | (rw [if_pos (by decide +kernel)]; kernel_rfl) | (rw [if_neg (by decide +kernel)]; exact ⟨rfl, rfl⟩))
    (fun os started H enc _ => rings_lifted os started H enc)
end Go.Proofs.Ytcfibjfhmfdmkaa
