/-
  DERIVED. GIVEN WITH THE SEED: THE CARDS: each row of YtiebpjkppjollaaDoorRows.lean that lists a variable, with what it lists TIED to the program's text (the seventh form; the later family's looks); each row that meets fmt, with fmt's text TOLD by the authors' own Lean function (tested against real Go, not proved from fmt's source: count such statements apart). THE CARD IS WHAT COUNTS. Prove the row's statement (the work); the ties are given (YtiebpjkppjollaaDoorTie.lean); close each card by the builder's one call (the guide's Derived/Test/ToyasCard.lean, 'card_holds'). Laid BY PROGRAM, IN A SANDBOX (cutbox-door.mjs). By AI agents, Wed Nov 11 2026. No macro, syntax, notation, axiom, sorry.
-/
import Derived.Test.YtiebpjkppjollaaDoorRows
import GoSem.ClaimSeven
namespace Go.Proofs.YtiebpjkppjollaaDoor
namespace Rows

/-- THE TIED CARD OF 'bastionlaw9.Records'. -/
def recordsCard : Claim7 := { stood := { row := recordsRow, standIns := [], harness := (true, "3c70f312d7eae71a722bc7d1f1f575b535158bfe3ecaf366d12cae50f0d59c3a"), looks := true }, kinds := [], alts := [], laidByText := true, laidKinds := [.handle], laidTests := true, laidLooks := .later }
def RecordsCardSaid : Prop := Claim7.holds Tryd.pinned (.plain (OpenSpec.ofChange recordsSpec)) recordsCard

/-- THE TIED CARD OF 'bastionlaw9.RecordBack'. -/
def recordBackCard : Claim7 := { stood := { row := recordBackRow, standIns := [], harness := (true, "3c70f312d7eae71a722bc7d1f1f575b535158bfe3ecaf366d12cae50f0d59c3a"), looks := true }, kinds := [], alts := [], laidByText := true, laidKinds := [.handle], laidTests := true, laidLooks := .later }
def RecordBackCardSaid : Prop := Claim7.holds Tryd.pinned (.plain (OpenSpec.ofChange recordBackSpec)) recordBackCard

/-- THE TIED CARD OF 'bastionlaw9.RecordForms'. -/
def recordFormsCard : Claim7 := { stood := { row := recordFormsRow, standIns := [], harness := (true, "3c70f312d7eae71a722bc7d1f1f575b535158bfe3ecaf366d12cae50f0d59c3a"), looks := true }, kinds := [], alts := [], laidByText := true, laidKinds := [.handle], laidTests := true, laidLooks := .later }
def RecordFormsCardSaid : Prop := Claim7.holds Tryd.pinned (.plain (OpenSpec.ofChange recordFormsSpec)) recordFormsCard

/-- THE TIED CARD OF 'bastionlaw9.RecordRows'. -/
def recordRowsCard : Claim7 := { stood := { row := recordRowsRow, standIns := [], harness := (true, "3c70f312d7eae71a722bc7d1f1f575b535158bfe3ecaf366d12cae50f0d59c3a"), looks := true }, kinds := [], alts := [], laidByText := true, laidKinds := [.handle], laidTests := true, laidLooks := .later }
def RecordRowsCardSaid : Prop := Claim7.holds Tryd.pinned (.plain (OpenSpec.ofChange recordRowsSpec)) recordRowsCard

/-- THE TIED CARD OF 'bastionlaw9.RecordTorn'. -/
def recordTornCard : Claim7 := { stood := { row := recordTornRow, standIns := [], harness := (true, "3c70f312d7eae71a722bc7d1f1f575b535158bfe3ecaf366d12cae50f0d59c3a"), looks := true }, kinds := [], alts := [], laidByText := true, laidKinds := [.handle], laidTests := true, laidLooks := .later }
def RecordTornCardSaid : Prop := Claim7.holds Tryd.pinned (.plain (OpenSpec.ofChange recordTornSpec)) recordTornCard

/-- THE TIED CARD OF 'bastionlaw10.Supers'. -/
def supersCard : Claim7 := { stood := { row := supersRow, standIns := [], harness := (true, "3c70f312d7eae71a722bc7d1f1f575b535158bfe3ecaf366d12cae50f0d59c3a"), looks := true }, kinds := [], alts := [], laidByText := true, laidKinds := [.handle], laidTests := true, laidLooks := .later }
def SupersCardSaid : Prop := Claim7.holds Tryd.pinned (.plain (OpenSpec.ofChange supersSpec)) supersCard

/-- THE TIED CARD OF 'bastionlaw10.SuperSlots'. -/
def superSlotsCard : Claim7 := { stood := { row := superSlotsRow, standIns := [], harness := (true, "3c70f312d7eae71a722bc7d1f1f575b535158bfe3ecaf366d12cae50f0d59c3a"), looks := true }, kinds := [], alts := [], laidByText := true, laidKinds := [.handle], laidTests := true, laidLooks := .later }
def SuperSlotsCardSaid : Prop := Claim7.holds Tryd.pinned (.plain (OpenSpec.ofChange superSlotsSpec)) superSlotsCard

/-- THE TIED CARD OF 'bastionlaw10.SuperForms'. -/
def superFormsCard : Claim7 := { stood := { row := superFormsRow, standIns := [], harness := (true, "3c70f312d7eae71a722bc7d1f1f575b535158bfe3ecaf366d12cae50f0d59c3a"), looks := true }, kinds := [], alts := [], laidByText := true, laidKinds := [.handle], laidTests := true, laidLooks := .later }
def SuperFormsCardSaid : Prop := Claim7.holds Tryd.pinned (.plain (OpenSpec.ofChange superFormsSpec)) superFormsCard

/-- THE TIED CARD OF 'bastionlaw10.SuperRows'. -/
def superRowsCard : Claim7 := { stood := { row := superRowsRow, standIns := [], harness := (true, "3c70f312d7eae71a722bc7d1f1f575b535158bfe3ecaf366d12cae50f0d59c3a"), looks := true }, kinds := [], alts := [], laidByText := true, laidKinds := [.handle], laidTests := true, laidLooks := .later }
def SuperRowsCardSaid : Prop := Claim7.holds Tryd.pinned (.plain (OpenSpec.ofChange superRowsSpec)) superRowsCard

/-- THE SECOND FORM's CARD OF 'bastionlaw9.Records'. -/
def recordsUptoCard : Claim7 := { stood := { row := recordsUptoRow, standIns := [], harness := (true, "3c70f312d7eae71a722bc7d1f1f575b535158bfe3ecaf366d12cae50f0d59c3a"), looks := true }, kinds := [], alts := [], laidByText := true, laidKinds := [.handle], laidTests := true, laidLooks := .later }
def RecordsUptoCardSaid : Prop := Claim7.holds Tryd.pinned (.plain (OpenSpec.upto recordsSpec)) recordsUptoCard

/-- THE SECOND FORM's CARD OF 'bastionlaw9.RecordBack'. -/
def recordBackUptoCard : Claim7 := { stood := { row := recordBackUptoRow, standIns := [], harness := (true, "3c70f312d7eae71a722bc7d1f1f575b535158bfe3ecaf366d12cae50f0d59c3a"), looks := true }, kinds := [], alts := [], laidByText := true, laidKinds := [.handle], laidTests := true, laidLooks := .later }
def RecordBackUptoCardSaid : Prop := Claim7.holds Tryd.pinned (.plain (OpenSpec.upto recordBackSpec)) recordBackUptoCard

/-- THE SECOND FORM's CARD OF 'bastionlaw9.RecordForms'. -/
def recordFormsUptoCard : Claim7 := { stood := { row := recordFormsUptoRow, standIns := [], harness := (true, "3c70f312d7eae71a722bc7d1f1f575b535158bfe3ecaf366d12cae50f0d59c3a"), looks := true }, kinds := [], alts := [], laidByText := true, laidKinds := [.handle], laidTests := true, laidLooks := .later }
def RecordFormsUptoCardSaid : Prop := Claim7.holds Tryd.pinned (.plain (OpenSpec.upto recordFormsSpec)) recordFormsUptoCard

/-- THE SECOND FORM's CARD OF 'bastionlaw9.RecordRows'. -/
def recordRowsUptoCard : Claim7 := { stood := { row := recordRowsUptoRow, standIns := [], harness := (true, "3c70f312d7eae71a722bc7d1f1f575b535158bfe3ecaf366d12cae50f0d59c3a"), looks := true }, kinds := [], alts := [], laidByText := true, laidKinds := [.handle], laidTests := true, laidLooks := .later }
def RecordRowsUptoCardSaid : Prop := Claim7.holds Tryd.pinned (.plain (OpenSpec.upto recordRowsSpec)) recordRowsUptoCard

/-- THE SECOND FORM's CARD OF 'bastionlaw9.RecordTorn'. -/
def recordTornUptoCard : Claim7 := { stood := { row := recordTornUptoRow, standIns := [], harness := (true, "3c70f312d7eae71a722bc7d1f1f575b535158bfe3ecaf366d12cae50f0d59c3a"), looks := true }, kinds := [], alts := [], laidByText := true, laidKinds := [.handle], laidTests := true, laidLooks := .later }
def RecordTornUptoCardSaid : Prop := Claim7.holds Tryd.pinned (.plain (OpenSpec.upto recordTornSpec)) recordTornUptoCard

/-- THE SECOND FORM's CARD OF 'bastionlaw10.Supers'. -/
def supersUptoCard : Claim7 := { stood := { row := supersUptoRow, standIns := [], harness := (true, "3c70f312d7eae71a722bc7d1f1f575b535158bfe3ecaf366d12cae50f0d59c3a"), looks := true }, kinds := [], alts := [], laidByText := true, laidKinds := [.handle], laidTests := true, laidLooks := .later }
def SupersUptoCardSaid : Prop := Claim7.holds Tryd.pinned (.plain (OpenSpec.upto supersSpec)) supersUptoCard

/-- THE SECOND FORM's CARD OF 'bastionlaw10.SuperSlots'. -/
def superSlotsUptoCard : Claim7 := { stood := { row := superSlotsUptoRow, standIns := [], harness := (true, "3c70f312d7eae71a722bc7d1f1f575b535158bfe3ecaf366d12cae50f0d59c3a"), looks := true }, kinds := [], alts := [], laidByText := true, laidKinds := [.handle], laidTests := true, laidLooks := .later }
def SuperSlotsUptoCardSaid : Prop := Claim7.holds Tryd.pinned (.plain (OpenSpec.upto superSlotsSpec)) superSlotsUptoCard

/-- THE SECOND FORM's CARD OF 'bastionlaw10.SuperForms'. -/
def superFormsUptoCard : Claim7 := { stood := { row := superFormsUptoRow, standIns := [], harness := (true, "3c70f312d7eae71a722bc7d1f1f575b535158bfe3ecaf366d12cae50f0d59c3a"), looks := true }, kinds := [], alts := [], laidByText := true, laidKinds := [.handle], laidTests := true, laidLooks := .later }
def SuperFormsUptoCardSaid : Prop := Claim7.holds Tryd.pinned (.plain (OpenSpec.upto superFormsSpec)) superFormsUptoCard

/-- THE SECOND FORM's CARD OF 'bastionlaw10.SuperRows'. -/
def superRowsUptoCard : Claim7 := { stood := { row := superRowsUptoRow, standIns := [], harness := (true, "3c70f312d7eae71a722bc7d1f1f575b535158bfe3ecaf366d12cae50f0d59c3a"), looks := true }, kinds := [], alts := [], laidByText := true, laidKinds := [.handle], laidTests := true, laidLooks := .later }
def SuperRowsUptoCardSaid : Prop := Claim7.holds Tryd.pinned (.plain (OpenSpec.upto superRowsSpec)) superRowsUptoCard
end Rows
end Go.Proofs.YtiebpjkppjollaaDoor
