/-
  DERIVED. GIVEN WITH THE SEED: THE CARDS: each row of YtheeblhlhdeghaaDoorRows.lean that lists a variable, with what it lists TIED to the program's text (the seventh form; the later family's looks); each row that meets fmt, with fmt's text TOLD by the authors' own Lean function (tested against real Go, not proved from fmt's source: count such statements apart). THE CARD IS WHAT COUNTS. Prove the row's statement (the work); the ties are given (YtheeblhlhdeghaaDoorTie.lean); close each card by the builder's one call (the guide's Derived/Test/ToyasCard.lean, 'card_holds'). Laid BY PROGRAM, IN A SANDBOX (cutbox-door.mjs). By AI agents, Wed Nov 11 2026. No macro, syntax, notation, axiom, sorry.
-/
import Derived.Test.YtheeblhlhdeghaaDoorRows
import GoSem.ClaimSeven
namespace Go.Proofs.YtheeblhlhdeghaaDoor
namespace Rows

/-- THE TIED CARD OF 'bastionlaw4.Packets'. -/
def packetsCard : Claim7 := { stood := { row := packetsRow, standIns := [], harness := (true, "800a4ec7dac5f377936057fc9d9c08a793e233ffac6331fa51688dbd5d1f71fe"), looks := true }, kinds := [], alts := [], laidByText := true, laidKinds := [.handle], laidTests := true, laidLooks := .later }
def PacketsCardSaid : Prop := Claim7.holds Tryd.pinned (.plain (OpenSpec.ofChange packetsSpec)) packetsCard

/-- THE TIED CARD OF 'bastionlaw4.PacketBack'. -/
def packetBackCard : Claim7 := { stood := { row := packetBackRow, standIns := [], harness := (true, "800a4ec7dac5f377936057fc9d9c08a793e233ffac6331fa51688dbd5d1f71fe"), looks := true }, kinds := [], alts := [], laidByText := true, laidKinds := [.handle], laidTests := true, laidLooks := .later }
def PacketBackCardSaid : Prop := Claim7.holds Tryd.pinned (.plain (OpenSpec.ofChange packetBackSpec)) packetBackCard

/-- THE TIED CARD OF 'bastionlaw4.PacketUnlike'. -/
def packetUnlikeCard : Claim7 := { stood := { row := packetUnlikeRow, standIns := [], harness := (true, "800a4ec7dac5f377936057fc9d9c08a793e233ffac6331fa51688dbd5d1f71fe"), looks := true }, kinds := [], alts := [], laidByText := true, laidKinds := [.handle], laidTests := true, laidLooks := .later }
def PacketUnlikeCardSaid : Prop := Claim7.holds Tryd.pinned (.plain (OpenSpec.ofChange packetUnlikeSpec)) packetUnlikeCard

/-- THE TIED CARD OF 'bastionlaw4.PacketForms'. -/
def packetFormsCard : Claim7 := { stood := { row := packetFormsRow, standIns := [], harness := (true, "800a4ec7dac5f377936057fc9d9c08a793e233ffac6331fa51688dbd5d1f71fe"), looks := true }, kinds := [], alts := [], laidByText := true, laidKinds := [.handle], laidTests := true, laidLooks := .later }
def PacketFormsCardSaid : Prop := Claim7.holds Tryd.pinned (.plain (OpenSpec.ofChange packetFormsSpec)) packetFormsCard

/-- THE SECOND FORM's CARD OF 'bastionlaw4.Packets'. -/
def packetsUptoCard : Claim7 := { stood := { row := packetsUptoRow, standIns := [], harness := (true, "800a4ec7dac5f377936057fc9d9c08a793e233ffac6331fa51688dbd5d1f71fe"), looks := true }, kinds := [], alts := [], laidByText := true, laidKinds := [.handle], laidTests := true, laidLooks := .later }
def PacketsUptoCardSaid : Prop := Claim7.holds Tryd.pinned (.plain (OpenSpec.upto packetsSpec)) packetsUptoCard

/-- THE SECOND FORM's CARD OF 'bastionlaw4.PacketBack'. -/
def packetBackUptoCard : Claim7 := { stood := { row := packetBackUptoRow, standIns := [], harness := (true, "800a4ec7dac5f377936057fc9d9c08a793e233ffac6331fa51688dbd5d1f71fe"), looks := true }, kinds := [], alts := [], laidByText := true, laidKinds := [.handle], laidTests := true, laidLooks := .later }
def PacketBackUptoCardSaid : Prop := Claim7.holds Tryd.pinned (.plain (OpenSpec.upto packetBackSpec)) packetBackUptoCard

/-- THE SECOND FORM's CARD OF 'bastionlaw4.PacketUnlike'. -/
def packetUnlikeUptoCard : Claim7 := { stood := { row := packetUnlikeUptoRow, standIns := [], harness := (true, "800a4ec7dac5f377936057fc9d9c08a793e233ffac6331fa51688dbd5d1f71fe"), looks := true }, kinds := [], alts := [], laidByText := true, laidKinds := [.handle], laidTests := true, laidLooks := .later }
def PacketUnlikeUptoCardSaid : Prop := Claim7.holds Tryd.pinned (.plain (OpenSpec.upto packetUnlikeSpec)) packetUnlikeUptoCard

/-- THE SECOND FORM's CARD OF 'bastionlaw4.PacketForms'. -/
def packetFormsUptoCard : Claim7 := { stood := { row := packetFormsUptoRow, standIns := [], harness := (true, "800a4ec7dac5f377936057fc9d9c08a793e233ffac6331fa51688dbd5d1f71fe"), looks := true }, kinds := [], alts := [], laidByText := true, laidKinds := [.handle], laidTests := true, laidLooks := .later }
def PacketFormsUptoCardSaid : Prop := Claim7.holds Tryd.pinned (.plain (OpenSpec.upto packetFormsSpec)) packetFormsUptoCard
end Rows
end Go.Proofs.YtheeblhlhdeghaaDoor
