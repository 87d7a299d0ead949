/-
  DERIVED. GIVEN WITH THE SEED: THE CARDS: each row of YtcakipojmkehgaaDoorRows.lean that lists a variable, with what it lists TIED to the program's text (the seventh form; the later family's looks); each row that meets fmt, with fmt's text TOLD by the authors' own Lean function (tested against real Go, not proved from fmt's source: count such statements apart). THE CARD IS WHAT COUNTS. Prove the row's statement (the work); the ties are given (YtcakipojmkehgaaDoorTie.lean); close each card by the builder's one call (the guide's Derived/Test/ToyasCard.lean, 'card_holds'). Laid BY PROGRAM, IN A SANDBOX (cutbox-door.mjs). By AI agents, Wed Nov 11 2026. No macro, syntax, notation, axiom, sorry.
-/
import Derived.Test.YtcakipojmkehgaaDoorRows
import GoSem.ClaimSeven
namespace Go.Proofs.YtcakipojmkehgaaDoor
namespace Rows

/-- THE TIED CARD OF 'bastionlaw15.Tickets'. -/
def ticketsCard : Claim7 := { stood := { row := ticketsRow, standIns := [], harness := (true, "c761dbed0b760d2220037f6970453cddedc36deb1c2971f272af91587af90111"), looks := true }, kinds := [], alts := [], laidByText := true, laidKinds := [.handle], laidTests := true, laidLooks := .later }
def TicketsCardSaid : Prop := Claim7.holds Tryd.pinned (.plain (OpenSpec.ofChange ticketsSpec)) ticketsCard

/-- THE TIED CARD OF 'bastionlaw15.TicketBack'. -/
def ticketBackCard : Claim7 := { stood := { row := ticketBackRow, standIns := [], harness := (true, "c761dbed0b760d2220037f6970453cddedc36deb1c2971f272af91587af90111"), looks := true }, kinds := [], alts := [], laidByText := true, laidKinds := [.handle], laidTests := true, laidLooks := .later }
def TicketBackCardSaid : Prop := Claim7.holds Tryd.pinned (.plain (OpenSpec.ofChange ticketBackSpec)) ticketBackCard

/-- THE TIED CARD OF 'bastionlaw15.TicketForms'. -/
def ticketFormsCard : Claim7 := { stood := { row := ticketFormsRow, standIns := [], harness := (true, "c761dbed0b760d2220037f6970453cddedc36deb1c2971f272af91587af90111"), looks := true }, kinds := [], alts := [], laidByText := true, laidKinds := [.handle], laidTests := true, laidLooks := .later }
def TicketFormsCardSaid : Prop := Claim7.holds Tryd.pinned (.plain (OpenSpec.ofChange ticketFormsSpec)) ticketFormsCard

/-- THE TIED CARD OF 'bastionlaw15.TicketForge'. -/
def ticketForgeCard : Claim7 := { stood := { row := ticketForgeRow, standIns := [], harness := (true, "c761dbed0b760d2220037f6970453cddedc36deb1c2971f272af91587af90111"), looks := true }, kinds := [], alts := [], laidByText := true, laidKinds := [.handle], laidTests := true, laidLooks := .later }
def TicketForgeCardSaid : Prop := Claim7.holds Tryd.pinned (.plain (OpenSpec.ofChange ticketForgeSpec)) ticketForgeCard

/-- THE TIED CARD OF 'bastionlaw15.TicketMany'. -/
def ticketManyCard : Claim7 := { stood := { row := ticketManyRow, standIns := [], harness := (true, "c761dbed0b760d2220037f6970453cddedc36deb1c2971f272af91587af90111"), looks := true }, kinds := [], alts := [], laidByText := true, laidKinds := [.handle], laidTests := true, laidLooks := .later }
def TicketManyCardSaid : Prop := Claim7.holds Tryd.pinned (.plain (OpenSpec.ofChange ticketManySpec)) ticketManyCard

/-- THE SECOND FORM's CARD OF 'bastionlaw15.Tickets'. -/
def ticketsUptoCard : Claim7 := { stood := { row := ticketsUptoRow, standIns := [], harness := (true, "c761dbed0b760d2220037f6970453cddedc36deb1c2971f272af91587af90111"), looks := true }, kinds := [], alts := [], laidByText := true, laidKinds := [.handle], laidTests := true, laidLooks := .later }
def TicketsUptoCardSaid : Prop := Claim7.holds Tryd.pinned (.plain (OpenSpec.upto ticketsSpec)) ticketsUptoCard

/-- THE SECOND FORM's CARD OF 'bastionlaw15.TicketBack'. -/
def ticketBackUptoCard : Claim7 := { stood := { row := ticketBackUptoRow, standIns := [], harness := (true, "c761dbed0b760d2220037f6970453cddedc36deb1c2971f272af91587af90111"), looks := true }, kinds := [], alts := [], laidByText := true, laidKinds := [.handle], laidTests := true, laidLooks := .later }
def TicketBackUptoCardSaid : Prop := Claim7.holds Tryd.pinned (.plain (OpenSpec.upto ticketBackSpec)) ticketBackUptoCard

/-- THE SECOND FORM's CARD OF 'bastionlaw15.TicketForms'. -/
def ticketFormsUptoCard : Claim7 := { stood := { row := ticketFormsUptoRow, standIns := [], harness := (true, "c761dbed0b760d2220037f6970453cddedc36deb1c2971f272af91587af90111"), looks := true }, kinds := [], alts := [], laidByText := true, laidKinds := [.handle], laidTests := true, laidLooks := .later }
def TicketFormsUptoCardSaid : Prop := Claim7.holds Tryd.pinned (.plain (OpenSpec.upto ticketFormsSpec)) ticketFormsUptoCard

/-- THE SECOND FORM's CARD OF 'bastionlaw15.TicketForge'. -/
def ticketForgeUptoCard : Claim7 := { stood := { row := ticketForgeUptoRow, standIns := [], harness := (true, "c761dbed0b760d2220037f6970453cddedc36deb1c2971f272af91587af90111"), looks := true }, kinds := [], alts := [], laidByText := true, laidKinds := [.handle], laidTests := true, laidLooks := .later }
def TicketForgeUptoCardSaid : Prop := Claim7.holds Tryd.pinned (.plain (OpenSpec.upto ticketForgeSpec)) ticketForgeUptoCard

/-- THE SECOND FORM's CARD OF 'bastionlaw15.TicketMany'. -/
def ticketManyUptoCard : Claim7 := { stood := { row := ticketManyUptoRow, standIns := [], harness := (true, "c761dbed0b760d2220037f6970453cddedc36deb1c2971f272af91587af90111"), looks := true }, kinds := [], alts := [], laidByText := true, laidKinds := [.handle], laidTests := true, laidLooks := .later }
def TicketManyUptoCardSaid : Prop := Claim7.holds Tryd.pinned (.plain (OpenSpec.upto ticketManySpec)) ticketManyUptoCard
end Rows
end Go.Proofs.YtcakipojmkehgaaDoor
