/- CraftSeals is proved: a seal opens to its text with its own key alone, however many there are. No condition. -/
import Derived.Test.YthbpnffiibjgjaaCseals2
import Derived.Test.YthbpnffiibjgjaaFrameI
import Derived.Test.YthbpnffiibjgjaaFrameS
namespace Go.Proofs.Ythbpnffiibjgjaa
open Go Go.ChangeShapes Go.WideShapes Go.ChangeAt Go.RowKit Go.WideMaps Go.WideElems
open Go.ChangeMaps (open_string shut_string)

set_option maxRecDepth 100000 in
theorem craftSeals_lifted (os : Os) (started : os.Started) (H : Type) (enc : TypeId × Value → H) :
    ReturnsInHanded {} Try.checked os 7 .any (Rows.craftSealsSpec.pre6 enc Try.prog Try.f7 Rows.craftSealsRow.domain false) (Rows.craftSealsSpec.post enc Try.prog Try.f7 false true false false) := by
  refine returnsInHanded_of_change_sized (C := Try.checked) own0 started (by kernel_rfl) Try.func7
    (ChangeSpec.witness6 (enc := enc) (C := Try.checked) false ⟨#[], #[.slice none 0 0, .slice none 0 0], []⟩ 8 (by kernel_rfl) (by kernel_rfl) (by kernel_rfl) (by kernel_rfl)) ?_
  intro W base args ds gs before hval0 hW _ hsz0 _
  have hsz : (DataW.weightsEach Try.prog (Try.f7.params.toList ++ Rows.craftSealsSpec.plain.varTypes Try.prog) (ds ++ gs)).all (· ≤ reachBytes) = true := hsz0
  clear hsz0
  have hval : ∀ (j : Nat) t v, Try.f7.params[j]? = some t → args[j]? = some v → Value.okWide Try.prog W .any base t v := hval0
  have hW' := hW
  obtain ⟨p, q, hA0, hV, rfl, _, _⟩ := hW
  have hA : DataW.TrodAll enc Try.prog W 0 (fun _ => true) true Try.f7.params.toList args.toList ds p := hA0
  rw [Try.params7] at hA hval hsz
  obtain ⟨v0, v1, d0, d1, p0, p1, rfl, rfl, rfl, h0, h1⟩ := trodAll_two hA
  obtain ⟨rfl, rfl⟩ := trodVars_none hV
  obtain ⟨keysa, keyslen, keyscap, rfl⟩ := okWide_slice Try.underlying56 (hval 0 56 v0 rfl rfl)
  obtain ⟨textsa, textslen, textscap, rfl⟩ := okWide_slice Try.underlying22 (hval 1 22 v1 rfl rfl)
  clear hA0 hval0
  obtain ⟨keys, keysl, ia_keys⟩ := iarg_of h0 (fun elems spare hd => by
    have := sized_slice hsz (j := 0) (t := 56) (e := 3) (elems := elems) (spare := spare) rfl (by rw [← hd]; rfl) Try.underlying56
    rw [bytesI] at this
    unfold reachBytes at this
    omega)
  subst keysl
  obtain ⟨texts, textsl, sa_texts⟩ := sarg_of h1 (fun elems spare hd => by
    have := sized_slice hsz (j := 1) (t := 22) (e := 9) (elems := elems) (spare := spare) rfl (by rw [← hd]; rfl) Try.underlying22
    rw [bytesS] at this
    unfold reachBytes at this
    omega)
  subst textsl
  have e1 : Rows.craftSealsSpec.fn H ([d0, d1] ++ []) = { results := [.lit (.bool true)], args := [d0, d1] } := by simp [Rows.craftSealsSpec]
  refine (seals_walk keysa textsa keyscap textscap keys texts W ia_keys sa_texts).mono fun e W' ⟨he, hw⟩ => ?_
  subst he
  refine ⟨_, rfl, _, _, _, [], (p0 ++ p1), [], hW', ?_, ?_, ?_, hw.frame _, fun h => by cases h⟩
  · rw [e1]; exact trodAll_mk1 (shut_bool Try.underlying4 true)
  · rw [e1]; exact trodAll_mk2 (Below.trod laidOut0 ints_read ints_row h0 hw (fun x hx => by simpa using hW'.lt x (by simp [hx]))) (Below.trod laidOut0 strs_read strs_row h1 hw (fun x hx => by simpa using hW'.lt x (by simp [hx])))
  · rw [e1]; rfl

theorem craftSeals_holds : Rows.CraftSealsSaid :=
  OpenClaim.holds_of_wide 7 Try.f7 rfl rfl rfl rfl rfl rfl rfl ⟨rfl, rfl, rfl, rfl, rfl⟩ rfl rfl rfl rfl rfl (by kernel_rfl) Try.func7 (by kernel_rfl)
    (of_decide_eq_true (by kernel_rfl)) (by unfold Func.isWrapper; first | (rw [if_pos (by decide +kernel)]; kernel_rfl) | (rw [if_neg (by decide +kernel)]; exact ⟨rfl, rfl⟩))
    (fun os started H enc _ => craftSeals_lifted os started H enc)
end Go.Proofs.Ythbpnffiibjgjaa
