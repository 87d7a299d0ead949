/-
  No cell of these rows narrows 'for every input' (looked for: loops, veiled, ifaces, maps, wideKeys, modest, calm, conditions, laid).
  DERIVED. THE GIVEN ROWS OF THIS SEAT. 5 by the template 'for every input the law returns true; each argument reads behind the call as it read before'; 0 by the template 'total and deterministic' (their statements: YthbpnffiibjgjaaTotals.lean).
  GIVEN WITH THE SEED: the statements are not yours to turn. If you find one false, say at which input.
  Laid BY PROGRAM, IN A SANDBOX (cutbox-rows.mjs): the forced cells as the released guide's own fill.sh prints them over the translation 556a736731a36e1e… (all of the seat's roots in one cut). By AI agents, Wed Nov 11 2026. No macro, syntax, notation, axiom, sorry.
-/
import Derived.Test.YthbpnffiibjgjaaChecked
import GoSem.Claim
import GoSem.ClaimJoined
import GoSem.ClaimMapViews
import Derived.JoinedTies
import Derived.KernelRfl
namespace Go.Proofs.Ythbpnffiibjgjaa
/- THE CELL 'sum', in the pinned program and in every row, IS THE sha256 OF THE DUMP (.gsa) THAT YthbpnffiibjgjaaProg.lean LOADS. Nothing in Lean hashes anything: it is a label: what it is worth is what the hold of that sum in a sandbox is worth. -/
noncomputable def Try.pinned : Pinned := { name := "ythbpnffiibjgjaa", sum := "556a736731a36e1e0efd09ba140a4646e5cb55486833d071f5786ef5ca394ca6", checked := Try.checked }
namespace Rows
def none {H : Type} : Left H := { results := [], args := [] }

/-- 'bastionlaw3.Crafts': WHATEVER THE INPUT: true; the input reads as it did. -/
def craftsSpec : ChangeSpec := { name := "crafts", fn := fun _ => fun
  | [d1, d2, d3, d4, d5] => { results := [.lit (.bool true)], args := [d1, d2, d3, d4, d5] }
  | _ => none }
def craftsRow : OpenClaim := { program := "ythbpnffiibjgjaa", sum := "556a736731a36e1e0efd09ba140a4646e5cb55486833d071f5786ef5ca394ca6", func := "bastion/bastionlaw3.Crafts", spec := "crafts", apart := false }
def CraftsSaid : Prop := craftsRow.holds Try.pinned (OpenSpec.ofChange craftsSpec)

/-- ITS FALSE NEIGHBOUR: 'it returns false'. Refute it at one input. -/
def craftsWrong : ChangeSpec := { name := "crafts", fn := fun _ => fun
  | [d1, d2, d3, d4, d5] => { results := [.lit (.bool false)], args := [d1, d2, d3, d4, d5] }
  | _ => none }
def CraftsWrongFalsely : Prop := craftsRow.holds Try.pinned (OpenSpec.ofChange craftsWrong)

/-- 'bastionlaw3.CraftUnlike': WHATEVER THE INPUT: true; the input reads as it did. -/
def craftUnlikeSpec : ChangeSpec := { name := "craftUnlike", fn := fun _ => fun
  | [d1, d2, d3, d4] => { results := [.lit (.bool true)], args := [d1, d2, d3, d4] }
  | _ => none }
def craftUnlikeRow : OpenClaim := { program := "ythbpnffiibjgjaa", sum := "556a736731a36e1e0efd09ba140a4646e5cb55486833d071f5786ef5ca394ca6", func := "bastion/bastionlaw3.CraftUnlike", spec := "craftUnlike", apart := false }
def CraftUnlikeSaid : Prop := craftUnlikeRow.holds Try.pinned (OpenSpec.ofChange craftUnlikeSpec)

/-- ITS FALSE NEIGHBOUR: 'it returns false'. Refute it at one input. -/
def craftUnlikeWrong : ChangeSpec := { name := "craftUnlike", fn := fun _ => fun
  | [d1, d2, d3, d4] => { results := [.lit (.bool false)], args := [d1, d2, d3, d4] }
  | _ => none }
def CraftUnlikeWrongFalsely : Prop := craftUnlikeRow.holds Try.pinned (OpenSpec.ofChange craftUnlikeWrong)

/-- 'bastionlaw3.CraftForms': WHATEVER THE INPUT: true; the input reads as it did. -/
def craftFormsSpec : ChangeSpec := { name := "craftForms", fn := fun _ => fun
  | [d1, d2] => { results := [.lit (.bool true)], args := [d1, d2] }
  | _ => none }
def craftFormsRow : OpenClaim := { program := "ythbpnffiibjgjaa", sum := "556a736731a36e1e0efd09ba140a4646e5cb55486833d071f5786ef5ca394ca6", func := "bastion/bastionlaw3.CraftForms", spec := "craftForms", apart := false }
def CraftFormsSaid : Prop := craftFormsRow.holds Try.pinned (OpenSpec.ofChange craftFormsSpec)

/-- ITS FALSE NEIGHBOUR: 'it returns false'. Refute it at one input. -/
def craftFormsWrong : ChangeSpec := { name := "craftForms", fn := fun _ => fun
  | [d1, d2] => { results := [.lit (.bool false)], args := [d1, d2] }
  | _ => none }
def CraftFormsWrongFalsely : Prop := craftFormsRow.holds Try.pinned (OpenSpec.ofChange craftFormsWrong)

/-- 'bastionlaw3.CraftAsk': WHATEVER THE INPUT: true; the input reads as it did. -/
def craftAskSpec : ChangeSpec := { name := "craftAsk", fn := fun _ => fun
  | [d1, d2, d3, d4] => { results := [.lit (.bool true)], args := [d1, d2, d3, d4] }
  | _ => none }
def craftAskRow : OpenClaim := { program := "ythbpnffiibjgjaa", sum := "556a736731a36e1e0efd09ba140a4646e5cb55486833d071f5786ef5ca394ca6", func := "bastion/bastionlaw3.CraftAsk", spec := "craftAsk", apart := false }
def CraftAskSaid : Prop := craftAskRow.holds Try.pinned (OpenSpec.ofChange craftAskSpec)

/-- ITS FALSE NEIGHBOUR: 'it returns false'. Refute it at one input. -/
def craftAskWrong : ChangeSpec := { name := "craftAsk", fn := fun _ => fun
  | [d1, d2, d3, d4] => { results := [.lit (.bool false)], args := [d1, d2, d3, d4] }
  | _ => none }
def CraftAskWrongFalsely : Prop := craftAskRow.holds Try.pinned (OpenSpec.ofChange craftAskWrong)

/-- 'bastionlaw3.CraftSeals': WHATEVER THE INPUT: true; the input reads as it did. -/
def craftSealsSpec : ChangeSpec := { name := "craftSeals", fn := fun _ => fun
  | [d1, d2] => { results := [.lit (.bool true)], args := [d1, d2] }
  | _ => none }
def craftSealsRow : OpenClaim := { program := "ythbpnffiibjgjaa", sum := "556a736731a36e1e0efd09ba140a4646e5cb55486833d071f5786ef5ca394ca6", func := "bastion/bastionlaw3.CraftSeals", spec := "craftSeals", apart := false }
def CraftSealsSaid : Prop := craftSealsRow.holds Try.pinned (OpenSpec.ofChange craftSealsSpec)

/-- ITS FALSE NEIGHBOUR: 'it returns false'. Refute it at one input. -/
def craftSealsWrong : ChangeSpec := { name := "craftSeals", fn := fun _ => fun
  | [d1, d2] => { results := [.lit (.bool false)], args := [d1, d2] }
  | _ => none }
def CraftSealsWrongFalsely : Prop := craftSealsRow.holds Try.pinned (OpenSpec.ofChange craftSealsWrong)

/- THE SECOND FORM. 'bulk': how many values and letters a reading holds, each counted each time it is reached (what is shared counts as often as it is met; a slice's spare places count too). A statement '..UptoSaid' is the law's where the arguments, and the package variables that the reading takes, are together of bulk at most 1048576: NARROWER than '..Said'. Prove '..Said' where nothing that the law and all that it calls make is longer than what came in: it says more and counts as full. Else prove '..UptoSaid'. A law counts once. -/
mutual
def uptoBulk {H : Type} : DataW H → Nat
  | .lit (.string bytes) => bytes.length + 1
  | .lit _ => 1
  | .nil => 1
  | .ptr d => uptoBulk d + 1
  | .slice elems spare => uptoBulkAll elems + uptoBulkAll spare + 1
  | .agg parts => uptoBulkAll parts + 1
  | .iface _ d => uptoBulk d + 1
  | .map entries => uptoBulkEntries entries + 1
  | .held _ => 1
def uptoBulkAll {H : Type} : List (DataW H) → Nat
  | [] => 0
  | d :: r => uptoBulk d + uptoBulkAll r
def uptoBulkEntries {H : Type} : List (Lit × DataW H) → Nat
  | [] => 0
  | x :: r => uptoBulkEntry x + uptoBulkEntries r
def uptoBulkEntry {H : Type} : Lit × DataW H → Nat
  | (.string bytes, d) => bytes.length + uptoBulk d + 1
  | (_, d) => uptoBulk d + 1
 end
def uptoSmall : (H : Type) → List (DataW H) → Bool := fun _ ds => decide (uptoBulkAll ds ≤ 1048576)
def OpenSpec.upto (s : _root_.Go.ChangeSpec) : _root_.Go.OpenSpec := { _root_.Go.OpenSpec.ofChange s with cond := some uptoSmall }

/-- 'bastionlaw3.Crafts', WHERE WHAT IT READS IS OF BULK AT MOST 1048576: true; the input reads as it did. -/
def craftsUptoRow : OpenClaim := { program := "ythbpnffiibjgjaa", sum := "556a736731a36e1e0efd09ba140a4646e5cb55486833d071f5786ef5ca394ca6", func := "bastion/bastionlaw3.Crafts", spec := "crafts", apart := false, narrowed := true }
def CraftsUptoSaid : Prop := craftsUptoRow.holds Try.pinned (OpenSpec.upto craftsSpec)

/-- 'bastionlaw3.CraftUnlike', WHERE WHAT IT READS IS OF BULK AT MOST 1048576: true; the input reads as it did. -/
def craftUnlikeUptoRow : OpenClaim := { program := "ythbpnffiibjgjaa", sum := "556a736731a36e1e0efd09ba140a4646e5cb55486833d071f5786ef5ca394ca6", func := "bastion/bastionlaw3.CraftUnlike", spec := "craftUnlike", apart := false, narrowed := true }
def CraftUnlikeUptoSaid : Prop := craftUnlikeUptoRow.holds Try.pinned (OpenSpec.upto craftUnlikeSpec)

/-- 'bastionlaw3.CraftForms', WHERE WHAT IT READS IS OF BULK AT MOST 1048576: true; the input reads as it did. -/
def craftFormsUptoRow : OpenClaim := { program := "ythbpnffiibjgjaa", sum := "556a736731a36e1e0efd09ba140a4646e5cb55486833d071f5786ef5ca394ca6", func := "bastion/bastionlaw3.CraftForms", spec := "craftForms", apart := false, narrowed := true }
def CraftFormsUptoSaid : Prop := craftFormsUptoRow.holds Try.pinned (OpenSpec.upto craftFormsSpec)

/-- 'bastionlaw3.CraftAsk', WHERE WHAT IT READS IS OF BULK AT MOST 1048576: true; the input reads as it did. -/
def craftAskUptoRow : OpenClaim := { program := "ythbpnffiibjgjaa", sum := "556a736731a36e1e0efd09ba140a4646e5cb55486833d071f5786ef5ca394ca6", func := "bastion/bastionlaw3.CraftAsk", spec := "craftAsk", apart := false, narrowed := true }
def CraftAskUptoSaid : Prop := craftAskUptoRow.holds Try.pinned (OpenSpec.upto craftAskSpec)

/-- 'bastionlaw3.CraftSeals', WHERE WHAT IT READS IS OF BULK AT MOST 1048576: true; the input reads as it did. -/
def craftSealsUptoRow : OpenClaim := { program := "ythbpnffiibjgjaa", sum := "556a736731a36e1e0efd09ba140a4646e5cb55486833d071f5786ef5ca394ca6", func := "bastion/bastionlaw3.CraftSeals", spec := "craftSeals", apart := false, narrowed := true }
def CraftSealsUptoSaid : Prop := craftSealsUptoRow.holds Try.pinned (OpenSpec.upto craftSealsSpec)

end Rows
end Go.Proofs.Ythbpnffiibjgjaa
