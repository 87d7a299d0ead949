/-
  DERIVED. GIVEN WITH THE SEED: THE CARDS: each row of YtbfpfmidjdonjaaGreatDoorRows.lean that lists a variable, with what it lists TIED to the program's text (the seventh form; the later family's looks); each row that meets fmt, with fmt's text TOLD by the authors' own Lean function (tested against real Go, not proved from fmt's source: count such statements apart). THE CARD IS WHAT COUNTS. Prove the row's statement (the work); the ties are given (YtbfpfmidjdonjaaGreatDoorTie.lean); close each card by the builder's one call (the guide's Derived/Test/ToyasCard.lean, 'card_holds'). Laid BY PROGRAM, IN A SANDBOX (cutbox-door.mjs). By AI agents, Wed Nov 11 2026. No macro, syntax, notation, axiom, sorry.
-/
import Derived.Test.YtbfpfmidjdonjaaGreatDoorRows
import GoSem.ClaimSeven
namespace Go.Proofs.YtbfpfmidjdonjaaGreatDoor
namespace Rows

/-- THE TIED CARD OF 'bastionlaw11.Journals'. -/
def journalsCard : Claim7 := { stood := { row := journalsRow, standIns := [], harness := (true, "95d3c59582bfb876f4d4870613bb5494a7e9911b4ace4be1450721c1e30a2651"), looks := true }, kinds := [], alts := [], laidByText := true, laidKinds := [.handle], laidTests := true, laidLooks := .later }
def JournalsCardSaid : Prop := Claim7.holds Tryz.pinned (.plain (OpenSpec.ofChange journalsSpec)) journalsCard

/-- THE TIED CARD OF 'bastionlaw11.JournalKeeps'. -/
def journalKeepsCard : Claim7 := { stood := { row := journalKeepsRow, standIns := [], harness := (true, "95d3c59582bfb876f4d4870613bb5494a7e9911b4ace4be1450721c1e30a2651"), looks := true }, kinds := [], alts := [], laidByText := true, laidKinds := [.handle], laidTests := true, laidLooks := .later }
def JournalKeepsCardSaid : Prop := Claim7.holds Tryz.pinned (.plain (OpenSpec.ofChange journalKeepsSpec)) journalKeepsCard

/-- THE TIED CARD OF 'bastionlaw11.JournalForms'. -/
def journalFormsCard : Claim7 := { stood := { row := journalFormsRow, standIns := [], harness := (true, "95d3c59582bfb876f4d4870613bb5494a7e9911b4ace4be1450721c1e30a2651"), looks := true }, kinds := [], alts := [], laidByText := true, laidKinds := [.handle], laidTests := true, laidLooks := .later }
def JournalFormsCardSaid : Prop := Claim7.holds Tryz.pinned (.plain (OpenSpec.ofChange journalFormsSpec)) journalFormsCard

/-- THE TIED CARD OF 'bastionlaw11.JournalOld'. -/
def journalOldCard : Claim7 := { stood := { row := journalOldRow, standIns := [], harness := (true, "95d3c59582bfb876f4d4870613bb5494a7e9911b4ace4be1450721c1e30a2651"), looks := true }, kinds := [], alts := [], laidByText := true, laidKinds := [.handle], laidTests := true, laidLooks := .later }
def JournalOldCardSaid : Prop := Claim7.holds Tryz.pinned (.plain (OpenSpec.ofChange journalOldSpec)) journalOldCard

/-- THE TIED CARD OF 'bastionlaw11.JournalRoom'. -/
def journalRoomCard : Claim7 := { stood := { row := journalRoomRow, standIns := [], harness := (true, "95d3c59582bfb876f4d4870613bb5494a7e9911b4ace4be1450721c1e30a2651"), looks := true }, kinds := [], alts := [], laidByText := true, laidKinds := [.handle], laidTests := true, laidLooks := .later }
def JournalRoomCardSaid : Prop := Claim7.holds Tryz.pinned (.plain (OpenSpec.ofChange journalRoomSpec)) journalRoomCard

/-- THE TIED CARD OF 'bastionlaw11.JournalChain'. -/
def journalChainCard : Claim7 := { stood := { row := journalChainRow, standIns := [], harness := (true, "95d3c59582bfb876f4d4870613bb5494a7e9911b4ace4be1450721c1e30a2651"), looks := true }, kinds := [], alts := [], laidByText := true, laidKinds := [.handle], laidTests := true, laidLooks := .later }
def JournalChainCardSaid : Prop := Claim7.holds Tryz.pinned (.plain (OpenSpec.ofChange journalChainSpec)) journalChainCard

/-- THE TIED CARD OF 'bastionlaw11.JournalSwap'. -/
def journalSwapCard : Claim7 := { stood := { row := journalSwapRow, standIns := [], harness := (true, "95d3c59582bfb876f4d4870613bb5494a7e9911b4ace4be1450721c1e30a2651"), looks := true }, kinds := [], alts := [], laidByText := true, laidKinds := [.handle], laidTests := true, laidLooks := .later }
def JournalSwapCardSaid : Prop := Claim7.holds Tryz.pinned (.plain (OpenSpec.ofChange journalSwapSpec)) journalSwapCard

/-- THE SECOND FORM's CARD OF 'bastionlaw11.Journals'. -/
def journalsUptoCard : Claim7 := { stood := { row := journalsUptoRow, standIns := [], harness := (true, "95d3c59582bfb876f4d4870613bb5494a7e9911b4ace4be1450721c1e30a2651"), looks := true }, kinds := [], alts := [], laidByText := true, laidKinds := [.handle], laidTests := true, laidLooks := .later }
def JournalsUptoCardSaid : Prop := Claim7.holds Tryz.pinned (.plain (OpenSpec.upto journalsSpec)) journalsUptoCard

/-- THE SECOND FORM's CARD OF 'bastionlaw11.JournalKeeps'. -/
def journalKeepsUptoCard : Claim7 := { stood := { row := journalKeepsUptoRow, standIns := [], harness := (true, "95d3c59582bfb876f4d4870613bb5494a7e9911b4ace4be1450721c1e30a2651"), looks := true }, kinds := [], alts := [], laidByText := true, laidKinds := [.handle], laidTests := true, laidLooks := .later }
def JournalKeepsUptoCardSaid : Prop := Claim7.holds Tryz.pinned (.plain (OpenSpec.upto journalKeepsSpec)) journalKeepsUptoCard

/-- THE SECOND FORM's CARD OF 'bastionlaw11.JournalForms'. -/
def journalFormsUptoCard : Claim7 := { stood := { row := journalFormsUptoRow, standIns := [], harness := (true, "95d3c59582bfb876f4d4870613bb5494a7e9911b4ace4be1450721c1e30a2651"), looks := true }, kinds := [], alts := [], laidByText := true, laidKinds := [.handle], laidTests := true, laidLooks := .later }
def JournalFormsUptoCardSaid : Prop := Claim7.holds Tryz.pinned (.plain (OpenSpec.upto journalFormsSpec)) journalFormsUptoCard

/-- THE SECOND FORM's CARD OF 'bastionlaw11.JournalOld'. -/
def journalOldUptoCard : Claim7 := { stood := { row := journalOldUptoRow, standIns := [], harness := (true, "95d3c59582bfb876f4d4870613bb5494a7e9911b4ace4be1450721c1e30a2651"), looks := true }, kinds := [], alts := [], laidByText := true, laidKinds := [.handle], laidTests := true, laidLooks := .later }
def JournalOldUptoCardSaid : Prop := Claim7.holds Tryz.pinned (.plain (OpenSpec.upto journalOldSpec)) journalOldUptoCard

/-- THE SECOND FORM's CARD OF 'bastionlaw11.JournalRoom'. -/
def journalRoomUptoCard : Claim7 := { stood := { row := journalRoomUptoRow, standIns := [], harness := (true, "95d3c59582bfb876f4d4870613bb5494a7e9911b4ace4be1450721c1e30a2651"), looks := true }, kinds := [], alts := [], laidByText := true, laidKinds := [.handle], laidTests := true, laidLooks := .later }
def JournalRoomUptoCardSaid : Prop := Claim7.holds Tryz.pinned (.plain (OpenSpec.upto journalRoomSpec)) journalRoomUptoCard

/-- THE SECOND FORM's CARD OF 'bastionlaw11.JournalChain'. -/
def journalChainUptoCard : Claim7 := { stood := { row := journalChainUptoRow, standIns := [], harness := (true, "95d3c59582bfb876f4d4870613bb5494a7e9911b4ace4be1450721c1e30a2651"), looks := true }, kinds := [], alts := [], laidByText := true, laidKinds := [.handle], laidTests := true, laidLooks := .later }
def JournalChainUptoCardSaid : Prop := Claim7.holds Tryz.pinned (.plain (OpenSpec.upto journalChainSpec)) journalChainUptoCard

/-- THE SECOND FORM's CARD OF 'bastionlaw11.JournalSwap'. -/
def journalSwapUptoCard : Claim7 := { stood := { row := journalSwapUptoRow, standIns := [], harness := (true, "95d3c59582bfb876f4d4870613bb5494a7e9911b4ace4be1450721c1e30a2651"), looks := true }, kinds := [], alts := [], laidByText := true, laidKinds := [.handle], laidTests := true, laidLooks := .later }
def JournalSwapUptoCardSaid : Prop := Claim7.holds Tryz.pinned (.plain (OpenSpec.upto journalSwapSpec)) journalSwapUptoCard
end Rows
end Go.Proofs.YtbfpfmidjdonjaaGreatDoor
