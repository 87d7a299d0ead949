/-
  No cell of these rows narrows 'for every input' (looked for: loops, veiled, ifaces, maps, wideKeys, modest, calm, conditions, laid).
  DERIVED. THE GIVEN ROWS OF THIS SEAT. 4 by the template 'for every input the law returns true; each argument reads behind the call as it read before'; 0 by the template 'total and deterministic' (their statements: YtikdnmbbiipbjaaTotals.lean).
  GIVEN WITH THE SEED: the statements are not yours to turn. If you find one false, say at which input.
  Laid BY PROGRAM, IN A SANDBOX (cutbox-rows.mjs): the forced cells as the released guide's own fill.sh prints them over the translation b04c33f3e49f5332… (all of the seat's roots in one cut). By AI agents, Wed Nov 11 2026. No macro, syntax, notation, axiom, sorry.
-/
import Derived.Test.YtikdnmbbiipbjaaChecked
import GoSem.Claim
import GoSem.ClaimJoined
import GoSem.ClaimMapViews
import Derived.JoinedTies
import Derived.KernelRfl
namespace Go.Proofs.Ytikdnmbbiipbjaa
/- THE CELL 'sum', in the pinned program and in every row, IS THE sha256 OF THE DUMP (.gsa) THAT YtikdnmbbiipbjaaProg.lean LOADS. Nothing in Lean hashes anything: it is a label: what it is worth is what the hold of that sum in a sandbox is worth. -/
noncomputable def Try.pinned : Pinned := { name := "ytikdnmbbiipbjaa", sum := "b04c33f3e49f5332eb9aca3158308f0a376649b6ca65ae365c14ff98f6014f61", checked := Try.checked }
namespace Rows
def none {H : Type} : Left H := { results := [], args := [] }

/-- 'bastionlaw18.Halves': WHATEVER THE INPUT: true; the input reads as it did. -/
def halvesSpec : ChangeSpec := { name := "halves", fn := fun _ => fun
  | [d1, d2, d3, d4, d5] => { results := [.lit (.bool true)], args := [d1, d2, d3, d4, d5] }
  | _ => none }
def halvesRow : OpenClaim := { program := "ytikdnmbbiipbjaa", sum := "b04c33f3e49f5332eb9aca3158308f0a376649b6ca65ae365c14ff98f6014f61", func := "bastion/bastionlaw18.Halves", spec := "halves", unfollowed := true, recurses := true, apart := false }
def HalvesSaid : Prop := halvesRow.holds Try.pinned (OpenSpec.ofChange halvesSpec)

/-- ITS FALSE NEIGHBOUR: 'it returns false'. Refute it at one input. -/
def halvesWrong : ChangeSpec := { name := "halves", fn := fun _ => fun
  | [d1, d2, d3, d4, d5] => { results := [.lit (.bool false)], args := [d1, d2, d3, d4, d5] }
  | _ => none }
def HalvesWrongFalsely : Prop := halvesRow.holds Try.pinned (OpenSpec.ofChange halvesWrong)

/-- 'bastionlaw18.HalfWalks': WHATEVER THE INPUT: true; the input reads as it did. -/
def halfWalksSpec : ChangeSpec := { name := "halfWalks", fn := fun _ => fun
  | [d1, d2] => { results := [.lit (.bool true)], args := [d1, d2] }
  | _ => none }
def halfWalksRow : OpenClaim := { program := "ytikdnmbbiipbjaa", sum := "b04c33f3e49f5332eb9aca3158308f0a376649b6ca65ae365c14ff98f6014f61", func := "bastion/bastionlaw18.HalfWalks", spec := "halfWalks", unfollowed := true, recurses := true, apart := false }
def HalfWalksSaid : Prop := halfWalksRow.holds Try.pinned (OpenSpec.ofChange halfWalksSpec)

/-- ITS FALSE NEIGHBOUR: 'it returns false'. Refute it at one input. -/
def halfWalksWrong : ChangeSpec := { name := "halfWalks", fn := fun _ => fun
  | [d1, d2] => { results := [.lit (.bool false)], args := [d1, d2] }
  | _ => none }
def HalfWalksWrongFalsely : Prop := halfWalksRow.holds Try.pinned (OpenSpec.ofChange halfWalksWrong)

/-- 'bastionlaw18.HalfForms': WHATEVER THE INPUT: true; the input reads as it did. -/
def halfFormsSpec : ChangeSpec := { name := "halfForms", fn := fun _ => fun
  | [d1, d2] => { results := [.lit (.bool true)], args := [d1, d2] }
  | _ => none }
def halfFormsRow : OpenClaim := { program := "ytikdnmbbiipbjaa", sum := "b04c33f3e49f5332eb9aca3158308f0a376649b6ca65ae365c14ff98f6014f61", func := "bastion/bastionlaw18.HalfForms", spec := "halfForms", unfollowed := true, recurses := true, apart := false }
def HalfFormsSaid : Prop := halfFormsRow.holds Try.pinned (OpenSpec.ofChange halfFormsSpec)

/-- ITS FALSE NEIGHBOUR: 'it returns false'. Refute it at one input. -/
def halfFormsWrong : ChangeSpec := { name := "halfForms", fn := fun _ => fun
  | [d1, d2] => { results := [.lit (.bool false)], args := [d1, d2] }
  | _ => none }
def HalfFormsWrongFalsely : Prop := halfFormsRow.holds Try.pinned (OpenSpec.ofChange halfFormsWrong)

/-- 'bastionlaw18.HalfRows': WHATEVER THE INPUT: true; the input reads as it did. -/
def halfRowsSpec : ChangeSpec := { name := "halfRows", fn := fun _ => fun
  | [d] => { results := [.lit (.bool true)], args := [d] }
  | _ => none }
def halfRowsRow : OpenClaim := { program := "ytikdnmbbiipbjaa", sum := "b04c33f3e49f5332eb9aca3158308f0a376649b6ca65ae365c14ff98f6014f61", func := "bastion/bastionlaw18.HalfRows", spec := "halfRows", unfollowed := true, recurses := true, apart := false }
def HalfRowsSaid : Prop := halfRowsRow.holds Try.pinned (OpenSpec.ofChange halfRowsSpec)

/-- ITS FALSE NEIGHBOUR: 'it returns false'. Refute it at one input. -/
def halfRowsWrong : ChangeSpec := { name := "halfRows", fn := fun _ => fun
  | [d] => { results := [.lit (.bool false)], args := [d] }
  | _ => none }
def HalfRowsWrongFalsely : Prop := halfRowsRow.holds Try.pinned (OpenSpec.ofChange halfRowsWrong)

/- THE SECOND FORM. 'bulk': how many values and letters a reading holds, each counted each time it is reached (what is shared counts as often as it is met; a slice's spare places count too). A statement '..UptoSaid' is the law's where the arguments, and the package variables that the reading takes, are together of bulk at most 1048576: NARROWER than '..Said'. Prove '..Said' where nothing that the law and all that it calls make is longer than what came in: it says more and counts as full. Else prove '..UptoSaid'. A law counts once. -/
mutual
def uptoBulk {H : Type} : DataW H → Nat
  | .lit (.string bytes) => bytes.length + 1
  | .lit _ => 1
  | .nil => 1
  | .ptr d => uptoBulk d + 1
  | .slice elems spare => uptoBulkAll elems + uptoBulkAll spare + 1
  | .agg parts => uptoBulkAll parts + 1
  | .iface _ d => uptoBulk d + 1
  | .map entries => uptoBulkEntries entries + 1
  | .held _ => 1
def uptoBulkAll {H : Type} : List (DataW H) → Nat
  | [] => 0
  | d :: r => uptoBulk d + uptoBulkAll r
def uptoBulkEntries {H : Type} : List (Lit × DataW H) → Nat
  | [] => 0
  | x :: r => uptoBulkEntry x + uptoBulkEntries r
def uptoBulkEntry {H : Type} : Lit × DataW H → Nat
  | (.string bytes, d) => bytes.length + uptoBulk d + 1
  | (_, d) => uptoBulk d + 1
 end
def uptoSmall : (H : Type) → List (DataW H) → Bool := fun _ ds => decide (uptoBulkAll ds ≤ 1048576)
def OpenSpec.upto (s : _root_.Go.ChangeSpec) : _root_.Go.OpenSpec := { _root_.Go.OpenSpec.ofChange s with cond := some uptoSmall }

/-- 'bastionlaw18.Halves', WHERE WHAT IT READS IS OF BULK AT MOST 1048576: true; the input reads as it did. -/
def halvesUptoRow : OpenClaim := { program := "ytikdnmbbiipbjaa", sum := "b04c33f3e49f5332eb9aca3158308f0a376649b6ca65ae365c14ff98f6014f61", func := "bastion/bastionlaw18.Halves", spec := "halves", unfollowed := true, recurses := true, apart := false, narrowed := true }
def HalvesUptoSaid : Prop := halvesUptoRow.holds Try.pinned (OpenSpec.upto halvesSpec)

/-- 'bastionlaw18.HalfWalks', WHERE WHAT IT READS IS OF BULK AT MOST 1048576: true; the input reads as it did. -/
def halfWalksUptoRow : OpenClaim := { program := "ytikdnmbbiipbjaa", sum := "b04c33f3e49f5332eb9aca3158308f0a376649b6ca65ae365c14ff98f6014f61", func := "bastion/bastionlaw18.HalfWalks", spec := "halfWalks", unfollowed := true, recurses := true, apart := false, narrowed := true }
def HalfWalksUptoSaid : Prop := halfWalksUptoRow.holds Try.pinned (OpenSpec.upto halfWalksSpec)

/-- 'bastionlaw18.HalfForms', WHERE WHAT IT READS IS OF BULK AT MOST 1048576: true; the input reads as it did. -/
def halfFormsUptoRow : OpenClaim := { program := "ytikdnmbbiipbjaa", sum := "b04c33f3e49f5332eb9aca3158308f0a376649b6ca65ae365c14ff98f6014f61", func := "bastion/bastionlaw18.HalfForms", spec := "halfForms", unfollowed := true, recurses := true, apart := false, narrowed := true }
def HalfFormsUptoSaid : Prop := halfFormsUptoRow.holds Try.pinned (OpenSpec.upto halfFormsSpec)

/-- 'bastionlaw18.HalfRows', WHERE WHAT IT READS IS OF BULK AT MOST 1048576: true; the input reads as it did. -/
def halfRowsUptoRow : OpenClaim := { program := "ytikdnmbbiipbjaa", sum := "b04c33f3e49f5332eb9aca3158308f0a376649b6ca65ae365c14ff98f6014f61", func := "bastion/bastionlaw18.HalfRows", spec := "halfRows", unfollowed := true, recurses := true, apart := false, narrowed := true }
def HalfRowsUptoSaid : Prop := halfRowsUptoRow.holds Try.pinned (OpenSpec.upto halfRowsSpec)

end Rows
end Go.Proofs.Ytikdnmbbiipbjaa
