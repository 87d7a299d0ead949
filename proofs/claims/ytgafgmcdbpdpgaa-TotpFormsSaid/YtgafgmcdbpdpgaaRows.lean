/-
  No cell of these rows narrows 'for every input' (looked for: loops, veiled, ifaces, maps, wideKeys, modest, calm, conditions, laid).
  DERIVED. THE GIVEN ROWS OF THIS SEAT. 4 by the template 'for every input the law returns true; each argument reads behind the call as it read before'; 0 by the template 'total and deterministic' (their statements: YtgafgmcdbpdpgaaTotals.lean).
  GIVEN WITH THE SEED: the statements are not yours to turn. If you find one false, say at which input.
  Laid BY PROGRAM, IN A SANDBOX (cutbox-rows.mjs): the forced cells as the released guide's own fill.sh prints them over the translation a18e062a26585769… (all of the seat's roots in one cut). By AI agents, Wed Nov 11 2026. No macro, syntax, notation, axiom, sorry.
-/
import Derived.Test.YtgafgmcdbpdpgaaChecked
import GoSem.Claim
import GoSem.ClaimJoined
import GoSem.ClaimMapViews
import Derived.JoinedTies
import Derived.KernelRfl
namespace Go.Proofs.Ytgafgmcdbpdpgaa
/- THE CELL 'sum', in the pinned program and in every row, IS THE sha256 OF THE DUMP (.gsa) THAT YtgafgmcdbpdpgaaProg.lean LOADS. Nothing in Lean hashes anything: it is a label: what it is worth is what the hold of that sum in a sandbox is worth. -/
noncomputable def Try.pinned : Pinned := { name := "ytgafgmcdbpdpgaa", sum := "a18e062a26585769c74d45e2dea87414f8e48512feeb9ce7a75a135ade9e3a51", checked := Try.checked }
namespace Rows
def none {H : Type} : Left H := { results := [], args := [] }

/-- 'bastionlaw12.Totps': WHATEVER THE INPUT: true; the input reads as it did. -/
def totpsSpec : ChangeSpec := { name := "totps", fn := fun _ => fun
  | [d1, d2, d3, d4, d5, d6] => { results := [.lit (.bool true)], args := [d1, d2, d3, d4, d5, d6] }
  | _ => none }
def totpsRow : OpenClaim := { program := "ytgafgmcdbpdpgaa", sum := "a18e062a26585769c74d45e2dea87414f8e48512feeb9ce7a75a135ade9e3a51", func := "bastion/bastionlaw12.Totps", spec := "totps", unfollowed := true, recurses := true, apart := false }
def TotpsSaid : Prop := totpsRow.holds Try.pinned (OpenSpec.ofChange totpsSpec)

/-- ITS FALSE NEIGHBOUR: 'it returns false'. Refute it at one input. -/
def totpsWrong : ChangeSpec := { name := "totps", fn := fun _ => fun
  | [d1, d2, d3, d4, d5, d6] => { results := [.lit (.bool false)], args := [d1, d2, d3, d4, d5, d6] }
  | _ => none }
def TotpsWrongFalsely : Prop := totpsRow.holds Try.pinned (OpenSpec.ofChange totpsWrong)

/-- 'bastionlaw12.TotpOnce': WHATEVER THE INPUT: true; the input reads as it did. -/
def totpOnceSpec : ChangeSpec := { name := "totpOnce", fn := fun _ => fun
  | [d1, d2] => { results := [.lit (.bool true)], args := [d1, d2] }
  | _ => none }
def totpOnceRow : OpenClaim := { program := "ytgafgmcdbpdpgaa", sum := "a18e062a26585769c74d45e2dea87414f8e48512feeb9ce7a75a135ade9e3a51", func := "bastion/bastionlaw12.TotpOnce", spec := "totpOnce", unfollowed := true, recurses := true, apart := false }
def TotpOnceSaid : Prop := totpOnceRow.holds Try.pinned (OpenSpec.ofChange totpOnceSpec)

/-- ITS FALSE NEIGHBOUR: 'it returns false'. Refute it at one input. -/
def totpOnceWrong : ChangeSpec := { name := "totpOnce", fn := fun _ => fun
  | [d1, d2] => { results := [.lit (.bool false)], args := [d1, d2] }
  | _ => none }
def TotpOnceWrongFalsely : Prop := totpOnceRow.holds Try.pinned (OpenSpec.ofChange totpOnceWrong)

/-- 'bastionlaw12.TotpForms': WHATEVER THE INPUT: true; the input reads as it did. -/
def totpFormsSpec : ChangeSpec := { name := "totpForms", fn := fun _ => fun
  | [d1, d2] => { results := [.lit (.bool true)], args := [d1, d2] }
  | _ => none }
def totpFormsRow : OpenClaim := { program := "ytgafgmcdbpdpgaa", sum := "a18e062a26585769c74d45e2dea87414f8e48512feeb9ce7a75a135ade9e3a51", func := "bastion/bastionlaw12.TotpForms", spec := "totpForms", unfollowed := true, recurses := true, apart := false }
def TotpFormsSaid : Prop := totpFormsRow.holds Try.pinned (OpenSpec.ofChange totpFormsSpec)

/-- ITS FALSE NEIGHBOUR: 'it returns false'. Refute it at one input. -/
def totpFormsWrong : ChangeSpec := { name := "totpForms", fn := fun _ => fun
  | [d1, d2] => { results := [.lit (.bool false)], args := [d1, d2] }
  | _ => none }
def TotpFormsWrongFalsely : Prop := totpFormsRow.holds Try.pinned (OpenSpec.ofChange totpFormsWrong)

/-- 'bastionlaw12.TotpLeast': WHATEVER THE INPUT: true; the input reads as it did. -/
def totpLeastSpec : ChangeSpec := { name := "totpLeast", fn := fun _ => fun
  | [d1, d2, d3, d4] => { results := [.lit (.bool true)], args := [d1, d2, d3, d4] }
  | _ => none }
def totpLeastRow : OpenClaim := { program := "ytgafgmcdbpdpgaa", sum := "a18e062a26585769c74d45e2dea87414f8e48512feeb9ce7a75a135ade9e3a51", func := "bastion/bastionlaw12.TotpLeast", spec := "totpLeast", unfollowed := true, recurses := true, apart := false }
def TotpLeastSaid : Prop := totpLeastRow.holds Try.pinned (OpenSpec.ofChange totpLeastSpec)

/-- ITS FALSE NEIGHBOUR: 'it returns false'. Refute it at one input. -/
def totpLeastWrong : ChangeSpec := { name := "totpLeast", fn := fun _ => fun
  | [d1, d2, d3, d4] => { results := [.lit (.bool false)], args := [d1, d2, d3, d4] }
  | _ => none }
def TotpLeastWrongFalsely : Prop := totpLeastRow.holds Try.pinned (OpenSpec.ofChange totpLeastWrong)

/- THE SECOND FORM. 'bulk': how many values and letters a reading holds, each counted each time it is reached (what is shared counts as often as it is met; a slice's spare places count too). A statement '..UptoSaid' is the law's where the arguments, and the package variables that the reading takes, are together of bulk at most 1048576: NARROWER than '..Said'. Prove '..Said' where nothing that the law and all that it calls make is longer than what came in: it says more and counts as full. Else prove '..UptoSaid'. A law counts once. -/
mutual
def uptoBulk {H : Type} : DataW H → Nat
  | .lit (.string bytes) => bytes.length + 1
  | .lit _ => 1
  | .nil => 1
  | .ptr d => uptoBulk d + 1
  | .slice elems spare => uptoBulkAll elems + uptoBulkAll spare + 1
  | .agg parts => uptoBulkAll parts + 1
  | .iface _ d => uptoBulk d + 1
  | .map entries => uptoBulkEntries entries + 1
  | .held _ => 1
def uptoBulkAll {H : Type} : List (DataW H) → Nat
  | [] => 0
  | d :: r => uptoBulk d + uptoBulkAll r
def uptoBulkEntries {H : Type} : List (Lit × DataW H) → Nat
  | [] => 0
  | x :: r => uptoBulkEntry x + uptoBulkEntries r
def uptoBulkEntry {H : Type} : Lit × DataW H → Nat
  | (.string bytes, d) => bytes.length + uptoBulk d + 1
  | (_, d) => uptoBulk d + 1
 end
def uptoSmall : (H : Type) → List (DataW H) → Bool := fun _ ds => decide (uptoBulkAll ds ≤ 1048576)
def OpenSpec.upto (s : _root_.Go.ChangeSpec) : _root_.Go.OpenSpec := { _root_.Go.OpenSpec.ofChange s with cond := some uptoSmall }

/-- 'bastionlaw12.Totps', WHERE WHAT IT READS IS OF BULK AT MOST 1048576: true; the input reads as it did. -/
def totpsUptoRow : OpenClaim := { program := "ytgafgmcdbpdpgaa", sum := "a18e062a26585769c74d45e2dea87414f8e48512feeb9ce7a75a135ade9e3a51", func := "bastion/bastionlaw12.Totps", spec := "totps", unfollowed := true, recurses := true, apart := false, narrowed := true }
def TotpsUptoSaid : Prop := totpsUptoRow.holds Try.pinned (OpenSpec.upto totpsSpec)

/-- 'bastionlaw12.TotpOnce', WHERE WHAT IT READS IS OF BULK AT MOST 1048576: true; the input reads as it did. -/
def totpOnceUptoRow : OpenClaim := { program := "ytgafgmcdbpdpgaa", sum := "a18e062a26585769c74d45e2dea87414f8e48512feeb9ce7a75a135ade9e3a51", func := "bastion/bastionlaw12.TotpOnce", spec := "totpOnce", unfollowed := true, recurses := true, apart := false, narrowed := true }
def TotpOnceUptoSaid : Prop := totpOnceUptoRow.holds Try.pinned (OpenSpec.upto totpOnceSpec)

/-- 'bastionlaw12.TotpForms', WHERE WHAT IT READS IS OF BULK AT MOST 1048576: true; the input reads as it did. -/
def totpFormsUptoRow : OpenClaim := { program := "ytgafgmcdbpdpgaa", sum := "a18e062a26585769c74d45e2dea87414f8e48512feeb9ce7a75a135ade9e3a51", func := "bastion/bastionlaw12.TotpForms", spec := "totpForms", unfollowed := true, recurses := true, apart := false, narrowed := true }
def TotpFormsUptoSaid : Prop := totpFormsUptoRow.holds Try.pinned (OpenSpec.upto totpFormsSpec)

/-- 'bastionlaw12.TotpLeast', WHERE WHAT IT READS IS OF BULK AT MOST 1048576: true; the input reads as it did. -/
def totpLeastUptoRow : OpenClaim := { program := "ytgafgmcdbpdpgaa", sum := "a18e062a26585769c74d45e2dea87414f8e48512feeb9ce7a75a135ade9e3a51", func := "bastion/bastionlaw12.TotpLeast", spec := "totpLeast", unfollowed := true, recurses := true, apart := false, narrowed := true }
def TotpLeastUptoSaid : Prop := totpLeastUptoRow.holds Try.pinned (OpenSpec.upto totpLeastSpec)

end Rows
end Go.Proofs.Ytgafgmcdbpdpgaa
