/-
  No cell of these rows narrows 'for every input' (looked for: loops, veiled, ifaces, maps, wideKeys, modest, calm, conditions, laid).
  DERIVED. THE GIVEN ROWS OF THIS SEAT. 4 by the template 'for every input the law returns true; each argument reads behind the call as it read before'; 0 by the template 'total and deterministic' (their statements: YtnlmmpmpjcimcaaTotals.lean).
  GIVEN WITH THE SEED: the statements are not yours to turn. If you find one false, say at which input.
  Laid BY PROGRAM, IN A SANDBOX (cutbox-rows.mjs): the forced cells as the released guide's own fill.sh prints them over the translation 744d0575edfbe582… (all of the seat's roots in one cut). By AI agents, Wed Nov 11 2026. No macro, syntax, notation, axiom, sorry.
-/
import Derived.Test.YtnlmmpmpjcimcaaChecked
import GoSem.Claim
import GoSem.ClaimJoined
import GoSem.ClaimMapViews
import Derived.JoinedTies
import Derived.KernelRfl
namespace Go.Proofs.Ytnlmmpmpjcimcaa
/- THE CELL 'sum', in the pinned program and in every row, IS THE sha256 OF THE DUMP (.gsa) THAT YtnlmmpmpjcimcaaProg.lean LOADS. Nothing in Lean hashes anything: it is a label: what it is worth is what the hold of that sum in a sandbox is worth. -/
noncomputable def Try.pinned : Pinned := { name := "ytnlmmpmpjcimcaa", sum := "744d0575edfbe5826d324952b54334cdb551081528e4c4447659e6f4c4b45ad0", checked := Try.checked }
namespace Rows
def none {H : Type} : Left H := { results := [], args := [] }

/-- 'bastionlaw13.Locks': WHATEVER THE INPUT: true; the input reads as it did. -/
def locksSpec : ChangeSpec := { name := "locks", fn := fun _ => fun
  | [d1, d2, d3, d4] => { results := [.lit (.bool true)], args := [d1, d2, d3, d4] }
  | _ => none }
def locksRow : OpenClaim := { program := "ytnlmmpmpjcimcaa", sum := "744d0575edfbe5826d324952b54334cdb551081528e4c4447659e6f4c4b45ad0", func := "bastion/bastionlaw13.Locks", spec := "locks", apart := false }
def LocksSaid : Prop := locksRow.holds Try.pinned (OpenSpec.ofChange locksSpec)

/-- ITS FALSE NEIGHBOUR: 'it returns false'. Refute it at one input. -/
def locksWrong : ChangeSpec := { name := "locks", fn := fun _ => fun
  | [d1, d2, d3, d4] => { results := [.lit (.bool false)], args := [d1, d2, d3, d4] }
  | _ => none }
def LocksWrongFalsely : Prop := locksRow.holds Try.pinned (OpenSpec.ofChange locksWrong)

/-- 'bastionlaw13.LockWalks': WHATEVER THE INPUT: true; the input reads as it did. -/
def lockWalksSpec : ChangeSpec := { name := "lockWalks", fn := fun _ => fun
  | [d1, d2, d3] => { results := [.lit (.bool true)], args := [d1, d2, d3] }
  | _ => none }
def lockWalksRow : OpenClaim := { program := "ytnlmmpmpjcimcaa", sum := "744d0575edfbe5826d324952b54334cdb551081528e4c4447659e6f4c4b45ad0", func := "bastion/bastionlaw13.LockWalks", spec := "lockWalks", apart := false }
def LockWalksSaid : Prop := lockWalksRow.holds Try.pinned (OpenSpec.ofChange lockWalksSpec)

/-- ITS FALSE NEIGHBOUR: 'it returns false'. Refute it at one input. -/
def lockWalksWrong : ChangeSpec := { name := "lockWalks", fn := fun _ => fun
  | [d1, d2, d3] => { results := [.lit (.bool false)], args := [d1, d2, d3] }
  | _ => none }
def LockWalksWrongFalsely : Prop := lockWalksRow.holds Try.pinned (OpenSpec.ofChange lockWalksWrong)

/-- 'bastionlaw13.LockForms': WHATEVER THE INPUT: true; the input reads as it did. -/
def lockFormsSpec : ChangeSpec := { name := "lockForms", fn := fun _ => fun
  | [d1, d2] => { results := [.lit (.bool true)], args := [d1, d2] }
  | _ => none }
def lockFormsRow : OpenClaim := { program := "ytnlmmpmpjcimcaa", sum := "744d0575edfbe5826d324952b54334cdb551081528e4c4447659e6f4c4b45ad0", func := "bastion/bastionlaw13.LockForms", spec := "lockForms", apart := false }
def LockFormsSaid : Prop := lockFormsRow.holds Try.pinned (OpenSpec.ofChange lockFormsSpec)

/-- ITS FALSE NEIGHBOUR: 'it returns false'. Refute it at one input. -/
def lockFormsWrong : ChangeSpec := { name := "lockForms", fn := fun _ => fun
  | [d1, d2] => { results := [.lit (.bool false)], args := [d1, d2] }
  | _ => none }
def LockFormsWrongFalsely : Prop := lockFormsRow.holds Try.pinned (OpenSpec.ofChange lockFormsWrong)

/-- 'bastionlaw13.LockSpans': WHATEVER THE INPUT: true; the input reads as it did. -/
def lockSpansSpec : ChangeSpec := { name := "lockSpans", fn := fun _ => fun
  | [d1, d2, d3, d4] => { results := [.lit (.bool true)], args := [d1, d2, d3, d4] }
  | _ => none }
def lockSpansRow : OpenClaim := { program := "ytnlmmpmpjcimcaa", sum := "744d0575edfbe5826d324952b54334cdb551081528e4c4447659e6f4c4b45ad0", func := "bastion/bastionlaw13.LockSpans", spec := "lockSpans", apart := false }
def LockSpansSaid : Prop := lockSpansRow.holds Try.pinned (OpenSpec.ofChange lockSpansSpec)

/-- ITS FALSE NEIGHBOUR: 'it returns false'. Refute it at one input. -/
def lockSpansWrong : ChangeSpec := { name := "lockSpans", fn := fun _ => fun
  | [d1, d2, d3, d4] => { results := [.lit (.bool false)], args := [d1, d2, d3, d4] }
  | _ => none }
def LockSpansWrongFalsely : Prop := lockSpansRow.holds Try.pinned (OpenSpec.ofChange lockSpansWrong)

/- THE SECOND FORM. 'bulk': how many values and letters a reading holds, each counted each time it is reached (what is shared counts as often as it is met; a slice's spare places count too). A statement '..UptoSaid' is the law's where the arguments, and the package variables that the reading takes, are together of bulk at most 1048576: NARROWER than '..Said'. Prove '..Said' where nothing that the law and all that it calls make is longer than what came in: it says more and counts as full. Else prove '..UptoSaid'. A law counts once. -/
mutual
def uptoBulk {H : Type} : DataW H → Nat
  | .lit (.string bytes) => bytes.length + 1
  | .lit _ => 1
  | .nil => 1
  | .ptr d => uptoBulk d + 1
  | .slice elems spare => uptoBulkAll elems + uptoBulkAll spare + 1
  | .agg parts => uptoBulkAll parts + 1
  | .iface _ d => uptoBulk d + 1
  | .map entries => uptoBulkEntries entries + 1
  | .held _ => 1
def uptoBulkAll {H : Type} : List (DataW H) → Nat
  | [] => 0
  | d :: r => uptoBulk d + uptoBulkAll r
def uptoBulkEntries {H : Type} : List (Lit × DataW H) → Nat
  | [] => 0
  | x :: r => uptoBulkEntry x + uptoBulkEntries r
def uptoBulkEntry {H : Type} : Lit × DataW H → Nat
  | (.string bytes, d) => bytes.length + uptoBulk d + 1
  | (_, d) => uptoBulk d + 1
 end
def uptoSmall : (H : Type) → List (DataW H) → Bool := fun _ ds => decide (uptoBulkAll ds ≤ 1048576)
def OpenSpec.upto (s : _root_.Go.ChangeSpec) : _root_.Go.OpenSpec := { _root_.Go.OpenSpec.ofChange s with cond := some uptoSmall }

/-- 'bastionlaw13.Locks', WHERE WHAT IT READS IS OF BULK AT MOST 1048576: true; the input reads as it did. -/
def locksUptoRow : OpenClaim := { program := "ytnlmmpmpjcimcaa", sum := "744d0575edfbe5826d324952b54334cdb551081528e4c4447659e6f4c4b45ad0", func := "bastion/bastionlaw13.Locks", spec := "locks", apart := false, narrowed := true }
def LocksUptoSaid : Prop := locksUptoRow.holds Try.pinned (OpenSpec.upto locksSpec)

/-- 'bastionlaw13.LockWalks', WHERE WHAT IT READS IS OF BULK AT MOST 1048576: true; the input reads as it did. -/
def lockWalksUptoRow : OpenClaim := { program := "ytnlmmpmpjcimcaa", sum := "744d0575edfbe5826d324952b54334cdb551081528e4c4447659e6f4c4b45ad0", func := "bastion/bastionlaw13.LockWalks", spec := "lockWalks", apart := false, narrowed := true }
def LockWalksUptoSaid : Prop := lockWalksUptoRow.holds Try.pinned (OpenSpec.upto lockWalksSpec)

/-- 'bastionlaw13.LockForms', WHERE WHAT IT READS IS OF BULK AT MOST 1048576: true; the input reads as it did. -/
def lockFormsUptoRow : OpenClaim := { program := "ytnlmmpmpjcimcaa", sum := "744d0575edfbe5826d324952b54334cdb551081528e4c4447659e6f4c4b45ad0", func := "bastion/bastionlaw13.LockForms", spec := "lockForms", apart := false, narrowed := true }
def LockFormsUptoSaid : Prop := lockFormsUptoRow.holds Try.pinned (OpenSpec.upto lockFormsSpec)

/-- 'bastionlaw13.LockSpans', WHERE WHAT IT READS IS OF BULK AT MOST 1048576: true; the input reads as it did. -/
def lockSpansUptoRow : OpenClaim := { program := "ytnlmmpmpjcimcaa", sum := "744d0575edfbe5826d324952b54334cdb551081528e4c4447659e6f4c4b45ad0", func := "bastion/bastionlaw13.LockSpans", spec := "lockSpans", apart := false, narrowed := true }
def LockSpansUptoSaid : Prop := lockSpansUptoRow.holds Try.pinned (OpenSpec.upto lockSpansSpec)

end Rows
end Go.Proofs.Ytnlmmpmpjcimcaa
