/- FieldChains is proved: numbers and texts in turn, one behind the other, come back in their row, and of less than all the last one is cut. Condition: errors.errorType reads as the program's text lays it (the card ties it). -/
import Derived.Test.YtmllcbhoioajgaaDoorFchains
import Derived.Test.YtmllcbhoioajgaaDoorFframe
namespace Go.Proofs.YtmllcbhoioajgaaDoor
open Go Go.ChangeShapes Go.WideShapes Go.RowKit Go.WideMaps Go.WideElems
open Go.ChangeMaps (open_string shut_string)

theorem laidOutK : laidOutB Tryd.prog = true := by kernel_rfl
theorem cellsI : Tryd.prog.cellsOf 3 = 1 := by kernel_rfl
theorem cellsS : Tryd.prog.cellsOf 9 = 1 := by kernel_rfl

theorem ints_arg {H : Type} {enc : TypeId × Value → H} {W : World} {a0 : Option Addr} {len cap fuel : Nat} {x : DataW H × List MemPlace}
    (hf : DataW.trod enc Tryd.prog W 0 (fun _ => true) true fuel 42 [.slice a0 len cap] = some x) :
    ∃ (b off : Nat) (zs : List Int), len ≤ 9223372036854775807 ∧ (0 < len → a0 = some ⟨b, off, none⟩ ∧ b < W.heap.size) ∧ (∀ i, i < len → W.cell? ⟨b, off + i, none⟩ = some (.int .i64 (zs.getD i 0))) := by
  rcases open_ints Tryd.underlying42 Tryd.underlying3 cellsI hf with ⟨hcs, _⟩ | ⟨a, len', cap', ss, hcs, _, hl, hm, hz, _, hcell, _⟩
  · simp at hcs
    obtain ⟨rfl, rfl, rfl⟩ := hcs
    exact ⟨0, 0, [], by omega, fun h => absurd h (by omega), fun j h => absurd h (by omega)⟩
  · simp at hcs
    obtain ⟨rfl, rfl, rfl⟩ := hcs
    simp only [if_true] at hz
    unfold maxLen at hm
    obtain ⟨b, off, spot⟩ := a
    refine ⟨b, off, ss, by omega, fun h0 => ?_, fun i hi => ?_⟩
    · have hspot : spot = none := by simpa [Addr.add] using World.cell?_spot (hcell 0 (by omega))
      subst hspot
      exact ⟨rfl, World.block_lt_of_cell? W _ (hcell 0 (by omega))⟩
    · have hspot : spot = none := by simpa [Addr.add] using World.cell?_spot (hcell 0 (by omega))
      subst hspot
      have := hcell i (by omega)
      rwa [Addr.add_lit] at this
theorem strs_arg {H : Type} {enc : TypeId × Value → H} {W : World} {a0 : Option Addr} {len cap fuel : Nat} {x : DataW H × List MemPlace}
    (hf : DataW.trod enc Tryd.prog W 0 (fun _ => true) true fuel 43 [.slice a0 len cap] = some x) :
    ∃ (b off : Nat) (zs : List ByteArray), len ≤ 9223372036854775807 ∧ (0 < len → a0 = some ⟨b, off, none⟩ ∧ b < W.heap.size) ∧ (∀ i, i < len → W.cell? ⟨b, off + i, none⟩ = some (.string (zs.getD i ByteArray.empty))) := by
  rcases open_strings Tryd.underlying43 Tryd.underlying9 cellsS hf with ⟨hcs, _⟩ | ⟨a, len', cap', ss, hcs, _, hl, hm, hz, _, hcell, _⟩
  · simp at hcs
    obtain ⟨rfl, rfl, rfl⟩ := hcs
    exact ⟨0, 0, [], by omega, fun h => absurd h (by omega), fun j h => absurd h (by omega)⟩
  · simp at hcs
    obtain ⟨rfl, rfl, rfl⟩ := hcs
    simp only [if_true] at hz
    unfold maxLen at hm
    obtain ⟨b, off, spot⟩ := a
    refine ⟨b, off, ss, by omega, fun h0 => ?_, fun i hi => ?_⟩
    · have hspot : spot = none := by simpa [Addr.add] using World.cell?_spot (hcell 0 (by omega))
      subst hspot
      exact ⟨rfl, World.block_lt_of_cell? W _ (hcell 0 (by omega))⟩
    · have hspot : spot = none := by simpa [Addr.add] using World.cell?_spot (hcell 0 (by omega))
      subst hspot
      have := hcell i (by omega)
      rwa [Addr.add_lit] at this

theorem chains_walk (ax ay : Option Addr) (lx cx ls cs : Nat) (w : World) (hx : ∃ (b off : Nat) (zs : List Int), lx ≤ 9223372036854775807 ∧ (0 < lx → ax = some ⟨b, off, none⟩ ∧ b < w.heap.size) ∧ (∀ i, i < lx → w.cell? ⟨b, off + i, none⟩ = some (.int .i64 (zs.getD i 0))))
    (hs : ∃ (b off : Nat) (zs : List ByteArray), ls ≤ 9223372036854775807 ∧ (0 < ls → ay = some ⟨b, off, none⟩ ∧ b < w.heap.size) ∧ (∀ i, i < ls → w.cell? ⟨b, off + i, none⟩ = some (.string (zs.getD i ByteArray.empty)))) (hg : Gd w) :
    Calls Tryd.prog 6 #[.slice ax lx cx, .slice ay ls cs] w fun e w' => e = .returned (.bool true) ∧ Gr w w' := by
  by_cases hz : lx = 0 ∨ ls = 0
  · exact chains_zero ax ay lx cx ls cs w hz hg
  · obtain ⟨bx, ox, zs, hlx, h1, hcx⟩ := hx
    obtain ⟨bt, ot, ts, hls, h2, hct⟩ := hs
    obtain ⟨rfl, hbx⟩ := h1 (by omega)
    obtain ⟨rfl, hbt⟩ := h2 (by omega)
    by_cases c1 : lx ≤ ls
    · by_cases c2 : lx ≤ 8
      · exact chains_a bx ox cx bt ot cs lx ls zs ts w c1 c2 hls hbx hbt hcx hct hg
      · exact chains_c bx ox cx bt ot cs lx ls zs ts w (by omega) (by omega) hlx hls hbx hbt hcx hct hg
    · by_cases c2 : ls ≤ 8
      · exact chains_b bx ox cx bt ot cs ls lx zs ts w (by omega) c2 hlx hbx hbt hcx hct hg
      · exact chains_c bx ox cx bt ot cs lx ls zs ts w (by omega) (by omega) hlx hls hbx hbt hcx hct hg

set_option maxRecDepth 100000 in
theorem fieldChains_lifted (os : Os) (started : os.Started) (H : Type) (enc : TypeId × Value → H) :
    ReturnsInHanded {} Tryd.checked os 6 .any (fun w args => (Rows.fieldChainsSpec.pre enc Tryd.prog Tryd.f6 [] false w args ∧ laidMetH Tryd.prog theLaid w) ∧ sizedMet enc Tryd.prog Tryd.f6 (OpenSpec.ofChange Rows.fieldChainsSpec) false w args)
      (Rows.fieldChainsSpec.post enc Tryd.prog Tryd.f6 false true false false) := by
  refine returnsInHanded_of_change_and (C := Tryd.checked) (X := fun w _ => laidMetH Tryd.prog theLaid w) (fun _ _ _ hh h => h.of_heap hh) ownK started (by kernel_rfl) Tryd.func6
    (ChangeSpec.witness_at (enc := enc) (C := Tryd.checked) (os := os) (X := fun w _ => laidMetH Tryd.prog theLaid w) false (laidWorld os) #[.slice none 0 0, .slice none 0 0] 8 rfl (by kernel_rfl) (by kernel_rfl) (by kernel_rfl) (by kernel_rfl) (by kernel_rfl) (laidWorld_met os _)) ?_
  intro W base args ds gs before hval0 hW _ hsz0 hL _
  have hval : ∀ (j : Nat) t v, Tryd.f6.params[j]? = some t → args[j]? = some v → Value.okWide Tryd.prog W .any base t v := hval0
  have hsz : (DataW.weightsEach Tryd.prog (Tryd.f6.params.toList ++ DataSpec.varTypes Tryd.prog Rows.fieldChainsSpec.plain) (ds ++ gs)).all (· ≤ reachBytes) = true := hsz0
  have hW' := hW
  obtain ⟨p, q, hA0, hV, rfl, hfz, hnd⟩ := hW
  have hA : DataW.TrodAll enc Tryd.prog W 0 (fun _ => true) true Tryd.f6.params.toList args.toList ds p := hA0
  rw [Tryd.params6] at hA hval hsz
  obtain ⟨v0, v1, d0, d1, p0, p1, rfl, rfl, rfl, h0, h1⟩ := trodAll_two hA
  obtain ⟨rfl, rfl⟩ := trodVars_none hV
  obtain ⟨ax, lx, cx, rfl⟩ := okWide_slice Tryd.underlying42 (hval 0 42 v0 rfl rfl)
  obtain ⟨ay, ly, cy, rfl⟩ := okWide_slice Tryd.underlying43 (hval 1 43 v1 rfl rfl)
  have hg := gd_of_laid hL
  clear hsz hsz0
  have h0k := h0
  have h1k := h1
  obtain ⟨fx, hfx⟩ := h0
  obtain ⟨fy, hfy⟩ := h1
  have hlt : ∀ x ∈ p0 ++ p1, x.block < W.heap.size := fun x hx => by simpa using hW'.lt x (by simpa using hx)
  have e1 : Rows.fieldChainsSpec.fn H ([d0, d1] ++ []) = { results := [.lit (.bool true)], args := [d0, d1] } := by simp [Rows.fieldChainsSpec]
  refine (chains_walk ax ay lx cx ly cy W (ints_arg hfx) (strs_arg hfy) hg).mono fun e W' ⟨he, hw⟩ => ?_
  subst he
  refine ⟨_, rfl, _, _, _, [], p0 ++ p1, [], hW', ?_, ?_, ?_, hw.below.frame _, fun h => by cases h⟩
  · rw [e1]; exact trodAll_mk1 (shut_bool Tryd.underlying4 true)
  · rw [e1]
    exact trodAll_mk2 (Below.trod laidOutK (by kernel_rfl) (of_decide_eq_true (by kernel_rfl)) h0k hw.below (fun x hx => hlt x (List.mem_append_left _ hx))) (Below.trod laidOutK (by kernel_rfl) (of_decide_eq_true (by kernel_rfl)) h1k hw.below (fun x hx => hlt x (List.mem_append_right _ hx)))
  · rw [e1]; rfl

theorem fieldChains_row : Rows.FieldChainsSaid :=
  OpenClaim.holds_of_wide 6 Tryd.f6 rfl rfl rfl rfl rfl rfl rfl ⟨rfl, rfl, rfl, rfl, rfl⟩ rfl rfl rfl rfl rfl (by kernel_rfl) Tryd.func6 (by kernel_rfl)
    (of_decide_eq_true (by kernel_rfl)) (by unfold Func.isWrapper; first | (rw [if_pos (by decide +kernel)]; kernel_rfl) | (rw [if_neg (by decide +kernel)]; exact ⟨rfl, rfl⟩))
    (fun os started H enc _ => fieldChains_lifted os started H enc)

theorem fieldChains_holds : Rows.FieldChainsCardSaid :=
  Claim7.holds_tied_plain_at .later [] [.handle] true _ true
    fieldChains_row (fun _ h => by cases h) (by kernel_rfl) (fun _ h => by cases h) fieldChains_row_tie rfl ⟨rfl, rfl⟩ (by kernel_rfl) rfl
    (fun f fn hf hfn => by
      obtain rfl : f = 6 := Option.some.inj ((show Tryd.prog.funcNamed "bastion/bastionlaw1.FieldChains" = some 6 by kernel_rfl).symm.trans hf) |>.symm
      obtain rfl : fn = Tryd.f6 := (Option.some.inj (Tryd.func6.symm.trans hfn)).symm
      exact ⟨by kernel_rfl, fun j t ht => by
        rw [Tryd.params6] at ht
        have hm : t ∈ [42, 43] := by simpa using Array.mem_of_getElem? ht
        have hall : ([42, 43].all fun u => !Tryd.prog.wantsStandIn u) = true := by kernel_rfl
        exact (show Tryd.prog.wantsStandIn t = false by simpa using List.all_eq_true.1 hall t hm)⟩)
    (by kernel_rfl)
end Go.Proofs.YtmllcbhoioajgaaDoor
