/- Books is proved: for every number of terms, row of terms and name the book answers as the reference's, and the samples hold. No condition. -/
import Derived.Test.YtebmineddgpjjaaBooks
import Derived.Test.YtebmineddgpjjaaBframe
namespace Go.Proofs.Ytebmineddgpjjaa
open Go Go.ChangeShapes Go.WideShapes Go.ChangeAt Go.RowKit Go.WideMaps Go.WideElems
open Go.ChangeMaps (open_string shut_string)

set_option maxRecDepth 100000 in
theorem books_lifted (os : Os) (started : os.Started) (H : Type) (enc : TypeId × Value → H) :
    ReturnsInHanded {} Try.checked os 3 .any (Rows.booksSpec.pre6 enc Try.prog Try.f3 Rows.booksRow.domain false) (Rows.booksSpec.post enc Try.prog Try.f3 false true false false) := by
  refine returnsInHanded_of_change_sized (C := Try.checked) own0 started (by kernel_rfl) Try.func3
    (ChangeSpec.witness6 (enc := enc) (C := Try.checked) false ⟨#[], #[.int .i64 0, .slice none 0 0, .int .i64 0], []⟩ 8 (by kernel_rfl) (by kernel_rfl) (by kernel_rfl) (by kernel_rfl)) ?_
  intro W base args ds gs before hval0 hW _ hsz0 _
  have hsz : (DataW.weightsEach Try.prog (Try.f3.params.toList ++ Rows.booksSpec.plain.varTypes Try.prog) (ds ++ gs)).all (· ≤ reachBytes) = true := hsz0
  clear hsz0
  have hval : ∀ (j : Nat) t v, Try.f3.params[j]? = some t → args[j]? = some v → Value.okWide Try.prog W .any base t v := hval0
  have hW' := hW
  obtain ⟨p, q, hA0, hV, rfl, _, _⟩ := hW
  have hA : DataW.TrodAll enc Try.prog W 0 (fun _ => true) true Try.f3.params.toList args.toList ds p := hA0
  rw [Try.params3] at hA hval hsz
  obtain ⟨v0, v1, v2, d0, d1, d2, p0, p1, p2, rfl, rfl, rfl, h0, h1, h2⟩ := trodAll_three hA
  obtain ⟨rfl, rfl⟩ := trodVars_none hV
  obtain ⟨most, rfl, rfl, rfl, wmost⟩ := open_int Try.underlying3 (hval 0 3 v0 rfl rfl) h0
  obtain ⟨ssa, sslen, sscap, rfl⟩ := okWide_slice Try.underlying22 (hval 1 22 v1 rfl rfl)
  obtain ⟨name, rfl, rfl, rfl, wname⟩ := open_int Try.underlying3 (hval 2 3 v2 rfl rfl) h2
  clear hA0 hval0
  obtain ⟨most0, most1⟩ := bounds_i64 wmost
  obtain ⟨ss, ssl, sa_ss⟩ := sarg_of h1 (fun elems spare hd => by
    have := sized_slice hsz (j := 1) (t := 22) (e := 9) (elems := elems) (spare := spare) rfl (by rw [← hd]; rfl) Try.underlying22
    rw [bytesS] at this
    unfold reachBytes at this
    omega)
  subst ssl
  obtain ⟨name0, name1⟩ := bounds_i64 wname
  have e1 : Rows.booksSpec.fn H ([.lit (.int .i64 most), d1, .lit (.int .i64 name)] ++ []) = { results := [.lit (.bool true)], args := [.lit (.int .i64 most), d1, .lit (.int .i64 name)] } := by simp [Rows.booksSpec]
  refine (books_walk most name ssa sscap ss W sa_ss).mono fun e W' ⟨he, hw⟩ => ?_
  subst he
  refine ⟨_, rfl, _, _, _, [], ([] ++ (p1 ++ [])), [], hW', ?_, ?_, ?_, hw.frame _, fun h => by cases h⟩
  · rw [e1]; exact trodAll_mk1 (shut_bool Try.underlying4 true)
  · rw [e1]; exact trodAll_mk3 (shut_int Try.underlying3 wmost) (Below.trod laidOut0 strs_read strs_row h1 hw (fun x hx => by simpa using hW'.lt x (by simp [hx]))) (shut_int Try.underlying3 wname)
  · rw [e1]; rfl

theorem books_holds : Rows.BooksSaid :=
  OpenClaim.holds_of_wide 3 Try.f3 rfl rfl rfl rfl rfl rfl rfl ⟨rfl, rfl, rfl, rfl, rfl⟩ rfl rfl rfl rfl rfl (by kernel_rfl) Try.func3 (by kernel_rfl)
    (of_decide_eq_true (by kernel_rfl)) (by unfold Func.isWrapper; first | (rw [if_pos (by decide +kernel)]; kernel_rfl) | (rw [if_neg (by decide +kernel)]; exact ⟨rfl, rfl⟩))
    (fun os started H enc _ => books_lifted os started H enc)
end Go.Proofs.Ytebmineddgpjjaa
