/- JournalSwap is proved: sectors that change places end the journal, and come back when they do. Condition: errors.errorType reads as the text of the program lays it (the card ties it). -/
import Derived.Test.YtbfpfmidjdonjaaGreatDoorJswap
import Derived.Test.YtbfpfmidjdonjaaGreatDoorFframe
import Derived.Test.YtbfpfmidjdonjaaGreatDoorFrame0
namespace Go.Proofs.YtbfpfmidjdonjaaGreatDoor
open Go Go.ChangeShapes Go.WideShapes Go.RowKit Go.WideMaps Go.WideElems
open Go.ChangeMaps (open_string shut_string)

set_option maxRecDepth 100000 in
theorem journalSwap_lifted (os : Os) (started : os.Started) (H : Type) (enc : TypeId × Value → H) :
    ReturnsInHanded {} Tryz.checked os 9 .any (fun w args => (Rows.journalSwapSpec.pre enc Tryz.prog Tryz.f9 [] false w args ∧ laidMetH Tryz.prog theLaid w) ∧ sizedMet enc Tryz.prog Tryz.f9 (OpenSpec.ofChange Rows.journalSwapSpec) false w args)
      (Rows.journalSwapSpec.post enc Tryz.prog Tryz.f9 false true false false) := by
  refine returnsInHanded_of_change_and (C := Tryz.checked) (X := fun w _ => laidMetH Tryz.prog theLaid w) (fun _ _ _ hh h => h.of_heap hh) ownK started (by kernel_rfl) Tryz.func9
    (ChangeSpec.witness_at (enc := enc) (C := Tryz.checked) (os := os) (X := fun w _ => laidMetH Tryz.prog theLaid w) false (laidWorld os) #[.int .i64 0, .int .i64 0, .int .i64 0] 8 rfl (by kernel_rfl) (by kernel_rfl) (by kernel_rfl) (by kernel_rfl) (by kernel_rfl) (laidWorld_met os _)) ?_
  intro W base args ds gs before hval0 hW _ hsz0 hL _
  have hval : ∀ (j : Nat) t v, Tryz.f9.params[j]? = some t → args[j]? = some v → Value.okWide Tryz.prog W .any base t v := hval0
  have hsz : (DataW.weightsEach Tryz.prog (Tryz.f9.params.toList ++ DataSpec.varTypes Tryz.prog Rows.journalSwapSpec.plain) (ds ++ gs)).all (· ≤ reachBytes) = true := hsz0
  have hW' := hW
  obtain ⟨p, q, hA0, hV, rfl, hfz, hnd⟩ := hW
  have hA : DataW.TrodAll enc Tryz.prog W 0 (fun _ => true) true Tryz.f9.params.toList args.toList ds p := hA0
  rw [Tryz.params9] at hA hval hsz
  obtain ⟨v0, v1, v2, d0, d1, d2, p0, p1, p2, rfl, rfl, rfl, h0, h1, h2⟩ := trodAll_three hA
  obtain ⟨rfl, rfl⟩ := trodVars_none hV
  obtain ⟨many, rfl, rfl, rfl, wmany⟩ := open_int Tryz.underlying3 (hval 0 3 v0 rfl rfl) h0
  obtain ⟨at1, rfl, rfl, rfl, wat1⟩ := open_int Tryz.underlying3 (hval 1 3 v1 rfl rfl) h1
  obtain ⟨to1, rfl, rfl, rfl, wto1⟩ := open_int Tryz.underlying3 (hval 2 3 v2 rfl rfl) h2
  have hg := gd_of_laid hL
  obtain ⟨many0, many1⟩ := bounds_i64 wmany
  obtain ⟨at10, at11⟩ := bounds_i64 wat1
  obtain ⟨to10, to11⟩ := bounds_i64 wto1
  clear hsz
  have e1 : Rows.journalSwapSpec.fn H ([.lit (.int .i64 many), .lit (.int .i64 at1), .lit (.int .i64 to1)] ++ []) = { results := [.lit (.bool true)], args := [.lit (.int .i64 many), .lit (.int .i64 at1), .lit (.int .i64 to1)] } := by simp [Rows.journalSwapSpec]
  refine (jswaplaw many at1 to1 W hg).mono fun e W' ⟨he, hw⟩ => ?_
  subst he
  refine ⟨_, rfl, _, _, _, [], ([] ++ ([] ++ [])), [], hW', ?_, ?_, ?_, hw.frame _, fun h => by cases h⟩
  · rw [e1]; exact trodAll_mk1 (shut_bool Tryz.underlying4 true)
  · rw [e1]; exact trodAll_mk3 (shut_int Tryz.underlying3 wmany) (shut_int Tryz.underlying3 wat1) (shut_int Tryz.underlying3 wto1)
  · rw [e1]; rfl

theorem journalSwap_row : Rows.JournalSwapSaid :=
  OpenClaim.holds_of_wide 9 Tryz.f9 rfl rfl rfl rfl rfl rfl rfl ⟨rfl, rfl, rfl, rfl, rfl⟩ rfl rfl rfl rfl rfl (by kernel_rfl) Tryz.func9 (by kernel_rfl)
    (of_decide_eq_true (by kernel_rfl)) (by unfold Func.isWrapper; first | (rw [if_pos (by decide +kernel)]; kernel_rfl) | (rw [if_neg (by decide +kernel)]; exact ⟨rfl, rfl⟩))
    (fun os started H enc _ => journalSwap_lifted os started H enc)

theorem journalSwap_holds : Rows.JournalSwapCardSaid :=
  Claim7.holds_tied_plain_at .later [] [.handle] true _ true
    journalSwap_row (fun _ h => by cases h) (by kernel_rfl) (fun _ h => by cases h) journalSwap_row_tie rfl ⟨rfl, rfl⟩ (by kernel_rfl) rfl
    (fun f fn hf hfn => by
      obtain rfl : f = 9 := Option.some.inj ((show Tryz.prog.funcNamed "bastion/bastionlaw11.JournalSwap" = some 9 by kernel_rfl).symm.trans hf) |>.symm
      obtain rfl : fn = Tryz.f9 := (Option.some.inj (Tryz.func9.symm.trans hfn)).symm
      exact ⟨by kernel_rfl, fun j t ht => by
        rw [Tryz.params9] at ht
        have hm : t ∈ [3, 3, 3] := by simpa using Array.mem_of_getElem? ht
        have hall : ([3, 3, 3].all fun u => !Tryz.prog.wantsStandIn u) = true := by kernel_rfl
        exact (show Tryz.prog.wantsStandIn t = false by simpa using List.all_eq_true.1 hall t hm)⟩)
    (by kernel_rfl)
end Go.Proofs.YtbfpfmidjdonjaaGreatDoor
