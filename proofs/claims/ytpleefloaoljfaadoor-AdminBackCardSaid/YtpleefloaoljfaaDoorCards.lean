/-
  DERIVED. GIVEN WITH THE SEED: THE CARDS: each row of YtpleefloaoljfaaDoorRows.lean that lists a variable, with what it lists TIED to the program's text (the seventh form; the later family's looks); each row that meets fmt, with fmt's text TOLD by the authors' own Lean function (tested against real Go, not proved from fmt's source: count such statements apart). THE CARD IS WHAT COUNTS. Prove the row's statement (the work); the ties are given (YtpleefloaoljfaaDoorTie.lean); close each card by the builder's one call (the guide's Derived/Test/ToyasCard.lean, 'card_holds'). Laid BY PROGRAM, IN A SANDBOX (cutbox-door.mjs). By AI agents, Wed Nov 11 2026. No macro, syntax, notation, axiom, sorry.
-/
import Derived.Test.YtpleefloaoljfaaDoorRows
import GoSem.ClaimSeven
namespace Go.Proofs.YtpleefloaoljfaaDoor
namespace Rows

/-- THE TIED CARD OF 'bastionlaw6.Admins'. -/
def adminsCard : Claim7 := { stood := { row := adminsRow, standIns := [], harness := (true, "1e33cabfed2b490f3fef021fbd3d50e6514149153698d3cd633ec78511898275"), looks := true }, kinds := [], alts := [], laidByText := true, laidKinds := [.handle], laidTests := true, laidLooks := .later }
def AdminsCardSaid : Prop := Claim7.holds Tryd.pinned (.plain (OpenSpec.ofChange adminsSpec)) adminsCard

/-- THE TIED CARD OF 'bastionlaw6.AdminBack'. -/
def adminBackCard : Claim7 := { stood := { row := adminBackRow, standIns := [], harness := (true, "1e33cabfed2b490f3fef021fbd3d50e6514149153698d3cd633ec78511898275"), looks := true }, kinds := [], alts := [], laidByText := true, laidKinds := [.handle], laidTests := true, laidLooks := .later }
def AdminBackCardSaid : Prop := Claim7.holds Tryd.pinned (.plain (OpenSpec.ofChange adminBackSpec)) adminBackCard

/-- THE TIED CARD OF 'bastionlaw6.AdminUnlike'. -/
def adminUnlikeCard : Claim7 := { stood := { row := adminUnlikeRow, standIns := [], harness := (true, "1e33cabfed2b490f3fef021fbd3d50e6514149153698d3cd633ec78511898275"), looks := true }, kinds := [], alts := [], laidByText := true, laidKinds := [.handle], laidTests := true, laidLooks := .later }
def AdminUnlikeCardSaid : Prop := Claim7.holds Tryd.pinned (.plain (OpenSpec.ofChange adminUnlikeSpec)) adminUnlikeCard

/-- THE TIED CARD OF 'bastionlaw6.AdminForms'. -/
def adminFormsCard : Claim7 := { stood := { row := adminFormsRow, standIns := [], harness := (true, "1e33cabfed2b490f3fef021fbd3d50e6514149153698d3cd633ec78511898275"), looks := true }, kinds := [], alts := [], laidByText := true, laidKinds := [.handle], laidTests := true, laidLooks := .later }
def AdminFormsCardSaid : Prop := Claim7.holds Tryd.pinned (.plain (OpenSpec.ofChange adminFormsSpec)) adminFormsCard

/-- THE SECOND FORM's CARD OF 'bastionlaw6.Admins'. -/
def adminsUptoCard : Claim7 := { stood := { row := adminsUptoRow, standIns := [], harness := (true, "1e33cabfed2b490f3fef021fbd3d50e6514149153698d3cd633ec78511898275"), looks := true }, kinds := [], alts := [], laidByText := true, laidKinds := [.handle], laidTests := true, laidLooks := .later }
def AdminsUptoCardSaid : Prop := Claim7.holds Tryd.pinned (.plain (OpenSpec.upto adminsSpec)) adminsUptoCard

/-- THE SECOND FORM's CARD OF 'bastionlaw6.AdminBack'. -/
def adminBackUptoCard : Claim7 := { stood := { row := adminBackUptoRow, standIns := [], harness := (true, "1e33cabfed2b490f3fef021fbd3d50e6514149153698d3cd633ec78511898275"), looks := true }, kinds := [], alts := [], laidByText := true, laidKinds := [.handle], laidTests := true, laidLooks := .later }
def AdminBackUptoCardSaid : Prop := Claim7.holds Tryd.pinned (.plain (OpenSpec.upto adminBackSpec)) adminBackUptoCard

/-- THE SECOND FORM's CARD OF 'bastionlaw6.AdminUnlike'. -/
def adminUnlikeUptoCard : Claim7 := { stood := { row := adminUnlikeUptoRow, standIns := [], harness := (true, "1e33cabfed2b490f3fef021fbd3d50e6514149153698d3cd633ec78511898275"), looks := true }, kinds := [], alts := [], laidByText := true, laidKinds := [.handle], laidTests := true, laidLooks := .later }
def AdminUnlikeUptoCardSaid : Prop := Claim7.holds Tryd.pinned (.plain (OpenSpec.upto adminUnlikeSpec)) adminUnlikeUptoCard

/-- THE SECOND FORM's CARD OF 'bastionlaw6.AdminForms'. -/
def adminFormsUptoCard : Claim7 := { stood := { row := adminFormsUptoRow, standIns := [], harness := (true, "1e33cabfed2b490f3fef021fbd3d50e6514149153698d3cd633ec78511898275"), looks := true }, kinds := [], alts := [], laidByText := true, laidKinds := [.handle], laidTests := true, laidLooks := .later }
def AdminFormsUptoCardSaid : Prop := Claim7.holds Tryd.pinned (.plain (OpenSpec.upto adminFormsSpec)) adminFormsUptoCard
end Rows
end Go.Proofs.YtpleefloaoljfaaDoor
