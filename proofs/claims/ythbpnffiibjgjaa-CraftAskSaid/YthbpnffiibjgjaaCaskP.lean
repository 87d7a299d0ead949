/- CraftAsk is proved: what nobody made is right for no tag, and stays so by asking. No condition. -/
import Derived.Test.YthbpnffiibjgjaaCask
import Derived.Test.YthbpnffiibjgjaaFrameS
import Derived.Test.YthbpnffiibjgjaaFrameS
namespace Go.Proofs.Ythbpnffiibjgjaa
open Go Go.ChangeShapes Go.WideShapes Go.ChangeAt Go.RowKit Go.WideMaps Go.WideElems
open Go.ChangeMaps (open_string shut_string)

set_option maxRecDepth 100000 in
theorem craftAsk_lifted (os : Os) (started : os.Started) (H : Type) (enc : TypeId × Value → H) :
    ReturnsInHanded {} Try.checked os 6 .any (Rows.craftAskSpec.pre6 enc Try.prog Try.f6 Rows.craftAskRow.domain false) (Rows.craftAskSpec.post enc Try.prog Try.f6 false true false false) := by
  refine returnsInHanded_of_change_sized (C := Try.checked) own0 started (by kernel_rfl) Try.func6
    (ChangeSpec.witness6 (enc := enc) (C := Try.checked) false ⟨#[], #[.slice none 0 0, .string ⟨#[]⟩, .int .i64 0, .int .i64 0], []⟩ 8 (by kernel_rfl) (by kernel_rfl) (by kernel_rfl) (by kernel_rfl)) ?_
  intro W base args ds gs before hval0 hW _ hsz0 _
  have hsz : (DataW.weightsEach Try.prog (Try.f6.params.toList ++ Rows.craftAskSpec.plain.varTypes Try.prog) (ds ++ gs)).all (· ≤ reachBytes) = true := hsz0
  clear hsz0
  have hval : ∀ (j : Nat) t v, Try.f6.params[j]? = some t → args[j]? = some v → Value.okWide Try.prog W .any base t v := hval0
  have hW' := hW
  obtain ⟨p, q, hA0, hV, rfl, _, _⟩ := hW
  have hA : DataW.TrodAll enc Try.prog W 0 (fun _ => true) true Try.f6.params.toList args.toList ds p := hA0
  rw [Try.params6] at hA hval hsz
  obtain ⟨v0, v1, v2, v3, d0, d1, d2, d3, p0, p1, p2, p3, rfl, rfl, rfl, h0, h1, h2, h3⟩ := trodAll_four hA
  obtain ⟨rfl, rfl⟩ := trodVars_none hV
  obtain ⟨madea, madelen, madecap, rfl⟩ := okWide_slice Try.underlying22 (hval 0 22 v0 rfl rfl)
  obtain ⟨asked, rfl, rfl, rfl, wasked⟩ := open_string Try.underlying9 (hval 1 9 v1 rfl rfl) h1
  obtain ⟨key, rfl, rfl, rfl, wkey⟩ := open_int Try.underlying3 (hval 2 3 v2 rfl rfl) h2
  obtain ⟨tag, rfl, rfl, rfl, wtag⟩ := open_int Try.underlying3 (hval 3 3 v3 rfl rfl) h3
  clear hA0 hval0
  obtain ⟨made, madel, sa_made⟩ := sarg_of h0 (fun elems spare hd => by
    have := sized_slice hsz (j := 0) (t := 22) (e := 9) (elems := elems) (spare := spare) rfl (by rw [← hd]; rfl) Try.underlying22
    rw [bytesS] at this
    unfold reachBytes at this
    omega)
  subst madel
  have hs_asked := sized_string hsz (j := 1) (t := 9) rfl rfl
  rw [← Lib.size_eq] at hs_asked
  unfold reachBytes at hs_asked
  obtain ⟨key0, key1⟩ := bounds_i64 wkey
  obtain ⟨tag0, tag1⟩ := bounds_i64 wtag
  have e1 : Rows.craftAskSpec.fn H ([d0, .lit (.string asked.data.toList), .lit (.int .i64 key), .lit (.int .i64 tag)] ++ []) = { results := [.lit (.bool true)], args := [d0, .lit (.string asked.data.toList), .lit (.int .i64 key), .lit (.int .i64 tag)] } := by simp [Rows.craftAskSpec]
  refine (ask_walk madea madecap made asked key tag W sa_made hs_asked).mono fun e W' ⟨he, hw⟩ => ?_
  subst he
  refine ⟨_, rfl, _, _, _, [], (p0 ++ ([] ++ ([] ++ []))), [], hW', ?_, ?_, ?_, hw.frame _, fun h => by cases h⟩
  · rw [e1]; exact trodAll_mk1 (shut_bool Try.underlying4 true)
  · rw [e1]; exact trodAll_mk4 (Below.trod laidOut0 strs_read strs_row h0 hw (fun x hx => by simpa using hW'.lt x (by simp [hx]))) (shut_string Try.underlying9 wasked) (shut_int Try.underlying3 wkey) (shut_int Try.underlying3 wtag)
  · rw [e1]; rfl

theorem craftAsk_holds : Rows.CraftAskSaid :=
  OpenClaim.holds_of_wide 6 Try.f6 rfl rfl rfl rfl rfl rfl rfl ⟨rfl, rfl, rfl, rfl, rfl⟩ rfl rfl rfl rfl rfl (by kernel_rfl) Try.func6 (by kernel_rfl)
    (of_decide_eq_true (by kernel_rfl)) (by unfold Func.isWrapper; first | (rw [if_pos (by decide +kernel)]; kernel_rfl) | (rw [if_neg (by decide +kernel)]; exact ⟨rfl, rfl⟩))
    (fun os started H enc _ => craftAsk_lifted os started H enc)
end Go.Proofs.Ythbpnffiibjgjaa
