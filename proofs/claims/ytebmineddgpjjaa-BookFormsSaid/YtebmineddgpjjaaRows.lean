/-
  No cell of these rows narrows 'for every input' (looked for: loops, veiled, ifaces, maps, wideKeys, modest, calm, conditions, laid).
  DERIVED. THE GIVEN ROWS OF THIS SEAT. 4 by the template 'for every input the law returns true; each argument reads behind the call as it read before'; 0 by the template 'total and deterministic' (their statements: YtebmineddgpjjaaTotals.lean).
  GIVEN WITH THE SEED: the statements are not yours to turn. If you find one false, say at which input.
  Laid BY PROGRAM, IN A SANDBOX (cutbox-rows.mjs): the forced cells as the released guide's own fill.sh prints them over the translation 0be0054652661481… (all of the seat's roots in one cut). By AI agents, Wed Nov 11 2026. No macro, syntax, notation, axiom, sorry.
-/
import Derived.Test.YtebmineddgpjjaaChecked
import GoSem.Claim
import GoSem.ClaimJoined
import GoSem.ClaimMapViews
import Derived.JoinedTies
import Derived.KernelRfl
namespace Go.Proofs.Ytebmineddgpjjaa
/- THE CELL 'sum', in the pinned program and in every row, IS THE sha256 OF THE DUMP (.gsa) THAT YtebmineddgpjjaaProg.lean LOADS. Nothing in Lean hashes anything: it is a label: what it is worth is what the hold of that sum in a sandbox is worth. -/
noncomputable def Try.pinned : Pinned := { name := "ytebmineddgpjjaa", sum := "0be0054652661481336d0e6bdf88cd189003394d119c670bc32bedb2b11f89a8", checked := Try.checked }
namespace Rows
def none {H : Type} : Left H := { results := [], args := [] }

/-- 'bastionlaw2.Books': WHATEVER THE INPUT: true; the input reads as it did. -/
def booksSpec : ChangeSpec := { name := "books", fn := fun _ => fun
  | [d1, d2, d3] => { results := [.lit (.bool true)], args := [d1, d2, d3] }
  | _ => none }
def booksRow : OpenClaim := { program := "ytebmineddgpjjaa", sum := "0be0054652661481336d0e6bdf88cd189003394d119c670bc32bedb2b11f89a8", func := "bastion/bastionlaw2.Books", spec := "books", apart := false }
def BooksSaid : Prop := booksRow.holds Try.pinned (OpenSpec.ofChange booksSpec)

/-- ITS FALSE NEIGHBOUR: 'it returns false'. Refute it at one input. -/
def booksWrong : ChangeSpec := { name := "books", fn := fun _ => fun
  | [d1, d2, d3] => { results := [.lit (.bool false)], args := [d1, d2, d3] }
  | _ => none }
def BooksWrongFalsely : Prop := booksRow.holds Try.pinned (OpenSpec.ofChange booksWrong)

/-- 'bastionlaw2.BookOnce': WHATEVER THE INPUT: true; the input reads as it did. -/
def bookOnceSpec : ChangeSpec := { name := "bookOnce", fn := fun _ => fun
  | [d] => { results := [.lit (.bool true)], args := [d] }
  | _ => none }
def bookOnceRow : OpenClaim := { program := "ytebmineddgpjjaa", sum := "0be0054652661481336d0e6bdf88cd189003394d119c670bc32bedb2b11f89a8", func := "bastion/bastionlaw2.BookOnce", spec := "bookOnce", apart := false }
def BookOnceSaid : Prop := bookOnceRow.holds Try.pinned (OpenSpec.ofChange bookOnceSpec)

/-- ITS FALSE NEIGHBOUR: 'it returns false'. Refute it at one input. -/
def bookOnceWrong : ChangeSpec := { name := "bookOnce", fn := fun _ => fun
  | [d] => { results := [.lit (.bool false)], args := [d] }
  | _ => none }
def BookOnceWrongFalsely : Prop := bookOnceRow.holds Try.pinned (OpenSpec.ofChange bookOnceWrong)

/-- 'bastionlaw2.BookForms': WHATEVER THE INPUT: true; the input reads as it did. -/
def bookFormsSpec : ChangeSpec := { name := "bookForms", fn := fun _ => fun
  | [d1, d2] => { results := [.lit (.bool true)], args := [d1, d2] }
  | _ => none }
def bookFormsRow : OpenClaim := { program := "ytebmineddgpjjaa", sum := "0be0054652661481336d0e6bdf88cd189003394d119c670bc32bedb2b11f89a8", func := "bastion/bastionlaw2.BookForms", spec := "bookForms", apart := false }
def BookFormsSaid : Prop := bookFormsRow.holds Try.pinned (OpenSpec.ofChange bookFormsSpec)

/-- ITS FALSE NEIGHBOUR: 'it returns false'. Refute it at one input. -/
def bookFormsWrong : ChangeSpec := { name := "bookForms", fn := fun _ => fun
  | [d1, d2] => { results := [.lit (.bool false)], args := [d1, d2] }
  | _ => none }
def BookFormsWrongFalsely : Prop := bookFormsRow.holds Try.pinned (OpenSpec.ofChange bookFormsWrong)

/-- 'bastionlaw2.BookRows': WHATEVER THE INPUT: true; the input reads as it did. -/
def bookRowsSpec : ChangeSpec := { name := "bookRows", fn := fun _ => fun
  | [d] => { results := [.lit (.bool true)], args := [d] }
  | _ => none }
def bookRowsRow : OpenClaim := { program := "ytebmineddgpjjaa", sum := "0be0054652661481336d0e6bdf88cd189003394d119c670bc32bedb2b11f89a8", func := "bastion/bastionlaw2.BookRows", spec := "bookRows", apart := false }
def BookRowsSaid : Prop := bookRowsRow.holds Try.pinned (OpenSpec.ofChange bookRowsSpec)

/-- ITS FALSE NEIGHBOUR: 'it returns false'. Refute it at one input. -/
def bookRowsWrong : ChangeSpec := { name := "bookRows", fn := fun _ => fun
  | [d] => { results := [.lit (.bool false)], args := [d] }
  | _ => none }
def BookRowsWrongFalsely : Prop := bookRowsRow.holds Try.pinned (OpenSpec.ofChange bookRowsWrong)

/- THE SECOND FORM. 'bulk': how many values and letters a reading holds, each counted each time it is reached (what is shared counts as often as it is met; a slice's spare places count too). A statement '..UptoSaid' is the law's where the arguments, and the package variables that the reading takes, are together of bulk at most 1048576: NARROWER than '..Said'. Prove '..Said' where nothing that the law and all that it calls make is longer than what came in: it says more and counts as full. Else prove '..UptoSaid'. A law counts once. -/
mutual
def uptoBulk {H : Type} : DataW H → Nat
  | .lit (.string bytes) => bytes.length + 1
  | .lit _ => 1
  | .nil => 1
  | .ptr d => uptoBulk d + 1
  | .slice elems spare => uptoBulkAll elems + uptoBulkAll spare + 1
  | .agg parts => uptoBulkAll parts + 1
  | .iface _ d => uptoBulk d + 1
  | .map entries => uptoBulkEntries entries + 1
  | .held _ => 1
def uptoBulkAll {H : Type} : List (DataW H) → Nat
  | [] => 0
  | d :: r => uptoBulk d + uptoBulkAll r
def uptoBulkEntries {H : Type} : List (Lit × DataW H) → Nat
  | [] => 0
  | x :: r => uptoBulkEntry x + uptoBulkEntries r
def uptoBulkEntry {H : Type} : Lit × DataW H → Nat
  | (.string bytes, d) => bytes.length + uptoBulk d + 1
  | (_, d) => uptoBulk d + 1
 end
def uptoSmall : (H : Type) → List (DataW H) → Bool := fun _ ds => decide (uptoBulkAll ds ≤ 1048576)
def OpenSpec.upto (s : _root_.Go.ChangeSpec) : _root_.Go.OpenSpec := { _root_.Go.OpenSpec.ofChange s with cond := some uptoSmall }

/-- 'bastionlaw2.Books', WHERE WHAT IT READS IS OF BULK AT MOST 1048576: true; the input reads as it did. -/
def booksUptoRow : OpenClaim := { program := "ytebmineddgpjjaa", sum := "0be0054652661481336d0e6bdf88cd189003394d119c670bc32bedb2b11f89a8", func := "bastion/bastionlaw2.Books", spec := "books", apart := false, narrowed := true }
def BooksUptoSaid : Prop := booksUptoRow.holds Try.pinned (OpenSpec.upto booksSpec)

/-- 'bastionlaw2.BookOnce', WHERE WHAT IT READS IS OF BULK AT MOST 1048576: true; the input reads as it did. -/
def bookOnceUptoRow : OpenClaim := { program := "ytebmineddgpjjaa", sum := "0be0054652661481336d0e6bdf88cd189003394d119c670bc32bedb2b11f89a8", func := "bastion/bastionlaw2.BookOnce", spec := "bookOnce", apart := false, narrowed := true }
def BookOnceUptoSaid : Prop := bookOnceUptoRow.holds Try.pinned (OpenSpec.upto bookOnceSpec)

/-- 'bastionlaw2.BookForms', WHERE WHAT IT READS IS OF BULK AT MOST 1048576: true; the input reads as it did. -/
def bookFormsUptoRow : OpenClaim := { program := "ytebmineddgpjjaa", sum := "0be0054652661481336d0e6bdf88cd189003394d119c670bc32bedb2b11f89a8", func := "bastion/bastionlaw2.BookForms", spec := "bookForms", apart := false, narrowed := true }
def BookFormsUptoSaid : Prop := bookFormsUptoRow.holds Try.pinned (OpenSpec.upto bookFormsSpec)

/-- 'bastionlaw2.BookRows', WHERE WHAT IT READS IS OF BULK AT MOST 1048576: true; the input reads as it did. -/
def bookRowsUptoRow : OpenClaim := { program := "ytebmineddgpjjaa", sum := "0be0054652661481336d0e6bdf88cd189003394d119c670bc32bedb2b11f89a8", func := "bastion/bastionlaw2.BookRows", spec := "bookRows", apart := false, narrowed := true }
def BookRowsUptoSaid : Prop := bookRowsUptoRow.holds Try.pinned (OpenSpec.upto bookRowsSpec)

end Rows
end Go.Proofs.Ytebmineddgpjjaa
