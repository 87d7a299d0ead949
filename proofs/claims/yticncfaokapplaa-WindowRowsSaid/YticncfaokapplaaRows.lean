/-
  No cell of these rows narrows 'for every input' (looked for: loops, veiled, ifaces, maps, wideKeys, modest, calm, conditions, laid).
  DERIVED. THE GIVEN ROWS OF THIS SEAT. 5 by the template 'for every input the law returns true; each argument reads behind the call as it read before'; 0 by the template 'total and deterministic' (their statements: YticncfaokapplaaTotals.lean).
  GIVEN WITH THE SEED: the statements are not yours to turn. If you find one false, say at which input.
  Laid BY PROGRAM, IN A SANDBOX (cutbox-rows.mjs): the forced cells as the released guide's own fill.sh prints them over the translation c1db40d3e572b42d… (all of the seat's roots in one cut). By AI agents, Wed Nov 11 2026. No macro, syntax, notation, axiom, sorry.
-/
import Derived.Test.YticncfaokapplaaChecked
import GoSem.Claim
import GoSem.ClaimJoined
import GoSem.ClaimMapViews
import Derived.JoinedTies
import Derived.KernelRfl
namespace Go.Proofs.Yticncfaokapplaa
/- THE CELL 'sum', in the pinned program and in every row, IS THE sha256 OF THE DUMP (.gsa) THAT YticncfaokapplaaProg.lean LOADS. Nothing in Lean hashes anything: it is a label: what it is worth is what the hold of that sum in a sandbox is worth. -/
noncomputable def Try.pinned : Pinned := { name := "yticncfaokapplaa", sum := "c1db40d3e572b42d58664c32bc2bdd2c87287da45f87481339712ed96faf5b6f", checked := Try.checked }
namespace Rows
def none {H : Type} : Left H := { results := [], args := [] }

/-- 'bastionlaw17.Windows': WHATEVER THE INPUT: true; the input reads as it did. -/
def windowsSpec : ChangeSpec := { name := "windows", fn := fun _ => fun
  | [d1, d2] => { results := [.lit (.bool true)], args := [d1, d2] }
  | _ => none }
def windowsRow : OpenClaim := { program := "yticncfaokapplaa", sum := "c1db40d3e572b42d58664c32bc2bdd2c87287da45f87481339712ed96faf5b6f", func := "bastion/bastionlaw17.Windows", spec := "windows", apart := false }
def WindowsSaid : Prop := windowsRow.holds Try.pinned (OpenSpec.ofChange windowsSpec)

/-- ITS FALSE NEIGHBOUR: 'it returns false'. Refute it at one input. -/
def windowsWrong : ChangeSpec := { name := "windows", fn := fun _ => fun
  | [d1, d2] => { results := [.lit (.bool false)], args := [d1, d2] }
  | _ => none }
def WindowsWrongFalsely : Prop := windowsRow.holds Try.pinned (OpenSpec.ofChange windowsWrong)

/-- 'bastionlaw17.WindowOnce': WHATEVER THE INPUT: true; the input reads as it did. -/
def windowOnceSpec : ChangeSpec := { name := "windowOnce", fn := fun _ => fun
  | [d] => { results := [.lit (.bool true)], args := [d] }
  | _ => none }
def windowOnceRow : OpenClaim := { program := "yticncfaokapplaa", sum := "c1db40d3e572b42d58664c32bc2bdd2c87287da45f87481339712ed96faf5b6f", func := "bastion/bastionlaw17.WindowOnce", spec := "windowOnce", apart := false }
def WindowOnceSaid : Prop := windowOnceRow.holds Try.pinned (OpenSpec.ofChange windowOnceSpec)

/-- ITS FALSE NEIGHBOUR: 'it returns false'. Refute it at one input. -/
def windowOnceWrong : ChangeSpec := { name := "windowOnce", fn := fun _ => fun
  | [d] => { results := [.lit (.bool false)], args := [d] }
  | _ => none }
def WindowOnceWrongFalsely : Prop := windowOnceRow.holds Try.pinned (OpenSpec.ofChange windowOnceWrong)

/-- 'bastionlaw17.WindowForms': WHATEVER THE INPUT: true; the input reads as it did. -/
def windowFormsSpec : ChangeSpec := { name := "windowForms", fn := fun _ => fun
  | [d1, d2] => { results := [.lit (.bool true)], args := [d1, d2] }
  | _ => none }
def windowFormsRow : OpenClaim := { program := "yticncfaokapplaa", sum := "c1db40d3e572b42d58664c32bc2bdd2c87287da45f87481339712ed96faf5b6f", func := "bastion/bastionlaw17.WindowForms", spec := "windowForms", apart := false }
def WindowFormsSaid : Prop := windowFormsRow.holds Try.pinned (OpenSpec.ofChange windowFormsSpec)

/-- ITS FALSE NEIGHBOUR: 'it returns false'. Refute it at one input. -/
def windowFormsWrong : ChangeSpec := { name := "windowForms", fn := fun _ => fun
  | [d1, d2] => { results := [.lit (.bool false)], args := [d1, d2] }
  | _ => none }
def WindowFormsWrongFalsely : Prop := windowFormsRow.holds Try.pinned (OpenSpec.ofChange windowFormsWrong)

/-- 'bastionlaw17.WindowRows': WHATEVER THE INPUT: true; the input reads as it did. -/
def windowRowsSpec : ChangeSpec := { name := "windowRows", fn := fun _ => fun
  | [d1, d2] => { results := [.lit (.bool true)], args := [d1, d2] }
  | _ => none }
def windowRowsRow : OpenClaim := { program := "yticncfaokapplaa", sum := "c1db40d3e572b42d58664c32bc2bdd2c87287da45f87481339712ed96faf5b6f", func := "bastion/bastionlaw17.WindowRows", spec := "windowRows", apart := false }
def WindowRowsSaid : Prop := windowRowsRow.holds Try.pinned (OpenSpec.ofChange windowRowsSpec)

/-- ITS FALSE NEIGHBOUR: 'it returns false'. Refute it at one input. -/
def windowRowsWrong : ChangeSpec := { name := "windowRows", fn := fun _ => fun
  | [d1, d2] => { results := [.lit (.bool false)], args := [d1, d2] }
  | _ => none }
def WindowRowsWrongFalsely : Prop := windowRowsRow.holds Try.pinned (OpenSpec.ofChange windowRowsWrong)

/-- 'bastionlaw17.WindowBits': WHATEVER THE INPUT: true; the input reads as it did. -/
def windowBitsSpec : ChangeSpec := { name := "windowBits", fn := fun _ => fun
  | [d1, d2] => { results := [.lit (.bool true)], args := [d1, d2] }
  | _ => none }
def windowBitsRow : OpenClaim := { program := "yticncfaokapplaa", sum := "c1db40d3e572b42d58664c32bc2bdd2c87287da45f87481339712ed96faf5b6f", func := "bastion/bastionlaw17.WindowBits", spec := "windowBits", apart := false }
def WindowBitsSaid : Prop := windowBitsRow.holds Try.pinned (OpenSpec.ofChange windowBitsSpec)

/-- ITS FALSE NEIGHBOUR: 'it returns false'. Refute it at one input. -/
def windowBitsWrong : ChangeSpec := { name := "windowBits", fn := fun _ => fun
  | [d1, d2] => { results := [.lit (.bool false)], args := [d1, d2] }
  | _ => none }
def WindowBitsWrongFalsely : Prop := windowBitsRow.holds Try.pinned (OpenSpec.ofChange windowBitsWrong)

/- THE SECOND FORM. 'bulk': how many values and letters a reading holds, each counted each time it is reached (what is shared counts as often as it is met; a slice's spare places count too). A statement '..UptoSaid' is the law's where the arguments, and the package variables that the reading takes, are together of bulk at most 1048576: NARROWER than '..Said'. Prove '..Said' where nothing that the law and all that it calls make is longer than what came in: it says more and counts as full. Else prove '..UptoSaid'. A law counts once. -/
mutual
def uptoBulk {H : Type} : DataW H → Nat
  | .lit (.string bytes) => bytes.length + 1
  | .lit _ => 1
  | .nil => 1
  | .ptr d => uptoBulk d + 1
  | .slice elems spare => uptoBulkAll elems + uptoBulkAll spare + 1
  | .agg parts => uptoBulkAll parts + 1
  | .iface _ d => uptoBulk d + 1
  | .map entries => uptoBulkEntries entries + 1
  | .held _ => 1
def uptoBulkAll {H : Type} : List (DataW H) → Nat
  | [] => 0
  | d :: r => uptoBulk d + uptoBulkAll r
def uptoBulkEntries {H : Type} : List (Lit × DataW H) → Nat
  | [] => 0
  | x :: r => uptoBulkEntry x + uptoBulkEntries r
def uptoBulkEntry {H : Type} : Lit × DataW H → Nat
  | (.string bytes, d) => bytes.length + uptoBulk d + 1
  | (_, d) => uptoBulk d + 1
 end
def uptoSmall : (H : Type) → List (DataW H) → Bool := fun _ ds => decide (uptoBulkAll ds ≤ 1048576)
def OpenSpec.upto (s : _root_.Go.ChangeSpec) : _root_.Go.OpenSpec := { _root_.Go.OpenSpec.ofChange s with cond := some uptoSmall }

/-- 'bastionlaw17.Windows', WHERE WHAT IT READS IS OF BULK AT MOST 1048576: true; the input reads as it did. -/
def windowsUptoRow : OpenClaim := { program := "yticncfaokapplaa", sum := "c1db40d3e572b42d58664c32bc2bdd2c87287da45f87481339712ed96faf5b6f", func := "bastion/bastionlaw17.Windows", spec := "windows", apart := false, narrowed := true }
def WindowsUptoSaid : Prop := windowsUptoRow.holds Try.pinned (OpenSpec.upto windowsSpec)

/-- 'bastionlaw17.WindowOnce', WHERE WHAT IT READS IS OF BULK AT MOST 1048576: true; the input reads as it did. -/
def windowOnceUptoRow : OpenClaim := { program := "yticncfaokapplaa", sum := "c1db40d3e572b42d58664c32bc2bdd2c87287da45f87481339712ed96faf5b6f", func := "bastion/bastionlaw17.WindowOnce", spec := "windowOnce", apart := false, narrowed := true }
def WindowOnceUptoSaid : Prop := windowOnceUptoRow.holds Try.pinned (OpenSpec.upto windowOnceSpec)

/-- 'bastionlaw17.WindowForms', WHERE WHAT IT READS IS OF BULK AT MOST 1048576: true; the input reads as it did. -/
def windowFormsUptoRow : OpenClaim := { program := "yticncfaokapplaa", sum := "c1db40d3e572b42d58664c32bc2bdd2c87287da45f87481339712ed96faf5b6f", func := "bastion/bastionlaw17.WindowForms", spec := "windowForms", apart := false, narrowed := true }
def WindowFormsUptoSaid : Prop := windowFormsUptoRow.holds Try.pinned (OpenSpec.upto windowFormsSpec)

/-- 'bastionlaw17.WindowRows', WHERE WHAT IT READS IS OF BULK AT MOST 1048576: true; the input reads as it did. -/
def windowRowsUptoRow : OpenClaim := { program := "yticncfaokapplaa", sum := "c1db40d3e572b42d58664c32bc2bdd2c87287da45f87481339712ed96faf5b6f", func := "bastion/bastionlaw17.WindowRows", spec := "windowRows", apart := false, narrowed := true }
def WindowRowsUptoSaid : Prop := windowRowsUptoRow.holds Try.pinned (OpenSpec.upto windowRowsSpec)

/-- 'bastionlaw17.WindowBits', WHERE WHAT IT READS IS OF BULK AT MOST 1048576: true; the input reads as it did. -/
def windowBitsUptoRow : OpenClaim := { program := "yticncfaokapplaa", sum := "c1db40d3e572b42d58664c32bc2bdd2c87287da45f87481339712ed96faf5b6f", func := "bastion/bastionlaw17.WindowBits", spec := "windowBits", apart := false, narrowed := true }
def WindowBitsUptoSaid : Prop := windowBitsUptoRow.holds Try.pinned (OpenSpec.upto windowBitsSpec)

end Rows
end Go.Proofs.Yticncfaokapplaa
