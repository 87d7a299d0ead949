/-
  DERIVED. GIVEN WITH THE SEED: THE CARDS: each row of YthbnkejjipiaaaaDoorRows.lean that lists a variable, with what it lists TIED to the program's text (the seventh form; the later family's looks); each row that meets fmt, with fmt's text TOLD by the authors' own Lean function (tested against real Go, not proved from fmt's source: count such statements apart). THE CARD IS WHAT COUNTS. Prove the row's statement (the work); the ties are given (YthbnkejjipiaaaaDoorTie.lean); close each card by the builder's one call (the guide's Derived/Test/ToyasCard.lean, 'card_holds'). Laid BY PROGRAM, IN A SANDBOX (cutbox-door.mjs). By AI agents, Wed Nov 11 2026. No macro, syntax, notation, axiom, sorry.
-/
import Derived.Test.YthbnkejjipiaaaaDoorRows
import GoSem.ClaimSeven
namespace Go.Proofs.YthbnkejjipiaaaaDoor
namespace Rows

/-- THE TIED CARD OF 'bastionlaw4.Packets'. -/
def packetsCard : Claim7 := { stood := { row := packetsRow, standIns := [], harness := (true, "6f6d53c8a3ee73696bf235cc1d23ac199c361192da8caf3dd3991461db1001ae"), looks := true }, kinds := [], alts := [], laidByText := true, laidKinds := [.handle], laidTests := true, laidLooks := .later }
def PacketsCardSaid : Prop := Claim7.holds Tryd.pinned (.plain (OpenSpec.ofChange packetsSpec)) packetsCard

/-- THE TIED CARD OF 'bastionlaw4.PacketBack'. -/
def packetBackCard : Claim7 := { stood := { row := packetBackRow, standIns := [], harness := (true, "6f6d53c8a3ee73696bf235cc1d23ac199c361192da8caf3dd3991461db1001ae"), looks := true }, kinds := [], alts := [], laidByText := true, laidKinds := [.handle], laidTests := true, laidLooks := .later }
def PacketBackCardSaid : Prop := Claim7.holds Tryd.pinned (.plain (OpenSpec.ofChange packetBackSpec)) packetBackCard

/-- THE TIED CARD OF 'bastionlaw4.PacketUnlike'. -/
def packetUnlikeCard : Claim7 := { stood := { row := packetUnlikeRow, standIns := [], harness := (true, "6f6d53c8a3ee73696bf235cc1d23ac199c361192da8caf3dd3991461db1001ae"), looks := true }, kinds := [], alts := [], laidByText := true, laidKinds := [.handle], laidTests := true, laidLooks := .later }
def PacketUnlikeCardSaid : Prop := Claim7.holds Tryd.pinned (.plain (OpenSpec.ofChange packetUnlikeSpec)) packetUnlikeCard

/-- THE TIED CARD OF 'bastionlaw4.PacketForms'. -/
def packetFormsCard : Claim7 := { stood := { row := packetFormsRow, standIns := [], harness := (true, "6f6d53c8a3ee73696bf235cc1d23ac199c361192da8caf3dd3991461db1001ae"), looks := true }, kinds := [], alts := [], laidByText := true, laidKinds := [.handle], laidTests := true, laidLooks := .later }
def PacketFormsCardSaid : Prop := Claim7.holds Tryd.pinned (.plain (OpenSpec.ofChange packetFormsSpec)) packetFormsCard

/-- THE TIED CARD OF 'bastionlaw5.Replies'. -/
def repliesCard : Claim7 := { stood := { row := repliesRow, standIns := [], harness := (true, "6f6d53c8a3ee73696bf235cc1d23ac199c361192da8caf3dd3991461db1001ae"), looks := true }, kinds := [], alts := [], laidByText := true, laidKinds := [.handle], laidTests := true, laidLooks := .later }
def RepliesCardSaid : Prop := Claim7.holds Tryd.pinned (.plain (OpenSpec.ofChange repliesSpec)) repliesCard

/-- THE TIED CARD OF 'bastionlaw5.ReplyBack'. -/
def replyBackCard : Claim7 := { stood := { row := replyBackRow, standIns := [], harness := (true, "6f6d53c8a3ee73696bf235cc1d23ac199c361192da8caf3dd3991461db1001ae"), looks := true }, kinds := [], alts := [], laidByText := true, laidKinds := [.handle], laidTests := true, laidLooks := .later }
def ReplyBackCardSaid : Prop := Claim7.holds Tryd.pinned (.plain (OpenSpec.ofChange replyBackSpec)) replyBackCard

/-- THE TIED CARD OF 'bastionlaw5.ReplyUnlike'. -/
def replyUnlikeCard : Claim7 := { stood := { row := replyUnlikeRow, standIns := [], harness := (true, "6f6d53c8a3ee73696bf235cc1d23ac199c361192da8caf3dd3991461db1001ae"), looks := true }, kinds := [], alts := [], laidByText := true, laidKinds := [.handle], laidTests := true, laidLooks := .later }
def ReplyUnlikeCardSaid : Prop := Claim7.holds Tryd.pinned (.plain (OpenSpec.ofChange replyUnlikeSpec)) replyUnlikeCard

/-- THE TIED CARD OF 'bastionlaw5.ReplyForms'. -/
def replyFormsCard : Claim7 := { stood := { row := replyFormsRow, standIns := [], harness := (true, "6f6d53c8a3ee73696bf235cc1d23ac199c361192da8caf3dd3991461db1001ae"), looks := true }, kinds := [], alts := [], laidByText := true, laidKinds := [.handle], laidTests := true, laidLooks := .later }
def ReplyFormsCardSaid : Prop := Claim7.holds Tryd.pinned (.plain (OpenSpec.ofChange replyFormsSpec)) replyFormsCard

/-- THE SECOND FORM's CARD OF 'bastionlaw4.Packets'. -/
def packetsUptoCard : Claim7 := { stood := { row := packetsUptoRow, standIns := [], harness := (true, "6f6d53c8a3ee73696bf235cc1d23ac199c361192da8caf3dd3991461db1001ae"), looks := true }, kinds := [], alts := [], laidByText := true, laidKinds := [.handle], laidTests := true, laidLooks := .later }
def PacketsUptoCardSaid : Prop := Claim7.holds Tryd.pinned (.plain (OpenSpec.upto packetsSpec)) packetsUptoCard

/-- THE SECOND FORM's CARD OF 'bastionlaw4.PacketBack'. -/
def packetBackUptoCard : Claim7 := { stood := { row := packetBackUptoRow, standIns := [], harness := (true, "6f6d53c8a3ee73696bf235cc1d23ac199c361192da8caf3dd3991461db1001ae"), looks := true }, kinds := [], alts := [], laidByText := true, laidKinds := [.handle], laidTests := true, laidLooks := .later }
def PacketBackUptoCardSaid : Prop := Claim7.holds Tryd.pinned (.plain (OpenSpec.upto packetBackSpec)) packetBackUptoCard

/-- THE SECOND FORM's CARD OF 'bastionlaw4.PacketUnlike'. -/
def packetUnlikeUptoCard : Claim7 := { stood := { row := packetUnlikeUptoRow, standIns := [], harness := (true, "6f6d53c8a3ee73696bf235cc1d23ac199c361192da8caf3dd3991461db1001ae"), looks := true }, kinds := [], alts := [], laidByText := true, laidKinds := [.handle], laidTests := true, laidLooks := .later }
def PacketUnlikeUptoCardSaid : Prop := Claim7.holds Tryd.pinned (.plain (OpenSpec.upto packetUnlikeSpec)) packetUnlikeUptoCard

/-- THE SECOND FORM's CARD OF 'bastionlaw4.PacketForms'. -/
def packetFormsUptoCard : Claim7 := { stood := { row := packetFormsUptoRow, standIns := [], harness := (true, "6f6d53c8a3ee73696bf235cc1d23ac199c361192da8caf3dd3991461db1001ae"), looks := true }, kinds := [], alts := [], laidByText := true, laidKinds := [.handle], laidTests := true, laidLooks := .later }
def PacketFormsUptoCardSaid : Prop := Claim7.holds Tryd.pinned (.plain (OpenSpec.upto packetFormsSpec)) packetFormsUptoCard

/-- THE SECOND FORM's CARD OF 'bastionlaw5.Replies'. -/
def repliesUptoCard : Claim7 := { stood := { row := repliesUptoRow, standIns := [], harness := (true, "6f6d53c8a3ee73696bf235cc1d23ac199c361192da8caf3dd3991461db1001ae"), looks := true }, kinds := [], alts := [], laidByText := true, laidKinds := [.handle], laidTests := true, laidLooks := .later }
def RepliesUptoCardSaid : Prop := Claim7.holds Tryd.pinned (.plain (OpenSpec.upto repliesSpec)) repliesUptoCard

/-- THE SECOND FORM's CARD OF 'bastionlaw5.ReplyBack'. -/
def replyBackUptoCard : Claim7 := { stood := { row := replyBackUptoRow, standIns := [], harness := (true, "6f6d53c8a3ee73696bf235cc1d23ac199c361192da8caf3dd3991461db1001ae"), looks := true }, kinds := [], alts := [], laidByText := true, laidKinds := [.handle], laidTests := true, laidLooks := .later }
def ReplyBackUptoCardSaid : Prop := Claim7.holds Tryd.pinned (.plain (OpenSpec.upto replyBackSpec)) replyBackUptoCard

/-- THE SECOND FORM's CARD OF 'bastionlaw5.ReplyUnlike'. -/
def replyUnlikeUptoCard : Claim7 := { stood := { row := replyUnlikeUptoRow, standIns := [], harness := (true, "6f6d53c8a3ee73696bf235cc1d23ac199c361192da8caf3dd3991461db1001ae"), looks := true }, kinds := [], alts := [], laidByText := true, laidKinds := [.handle], laidTests := true, laidLooks := .later }
def ReplyUnlikeUptoCardSaid : Prop := Claim7.holds Tryd.pinned (.plain (OpenSpec.upto replyUnlikeSpec)) replyUnlikeUptoCard

/-- THE SECOND FORM's CARD OF 'bastionlaw5.ReplyForms'. -/
def replyFormsUptoCard : Claim7 := { stood := { row := replyFormsUptoRow, standIns := [], harness := (true, "6f6d53c8a3ee73696bf235cc1d23ac199c361192da8caf3dd3991461db1001ae"), looks := true }, kinds := [], alts := [], laidByText := true, laidKinds := [.handle], laidTests := true, laidLooks := .later }
def ReplyFormsUptoCardSaid : Prop := Claim7.holds Tryd.pinned (.plain (OpenSpec.upto replyFormsSpec)) replyFormsUptoCard
end Rows
end Go.Proofs.YthbnkejjipiaaaaDoor
