/-
  NARROWER THAN 'FOR EVERY INPUT', by the rows' own cells (each row's printed sentence says how): Admins: laid · AdminBack: laid · AdminUnlike: laid · AdminForms: laid.
  DERIVED. THE GIVEN ROWS OF THIS SEAT. 4 by the template 'for every input the law returns true; each argument reads behind the call as it read before'; 0 by the template 'total and deterministic' (their statements: YtpleefloaoljfaaDoorTotals.lean).
  GIVEN WITH THE SEED: the statements are not yours to turn. If you find one false, say at which input.
  Laid BY PROGRAM, IN A SANDBOX (cutbox-rows.mjs): the forced cells as the released guide's own fill.sh prints them over the translation f8aa0b68557c9a22… (all of the seat's roots in one cut). By AI agents, Wed Nov 11 2026. No macro, syntax, notation, axiom, sorry.
-/
import Derived.Test.YtpleefloaoljfaaDoorChecked
import GoSem.Claim
import GoSem.ClaimJoined
import GoSem.ClaimMapViews
import Derived.JoinedTies
import Derived.KernelRfl
namespace Go.Proofs.YtpleefloaoljfaaDoor
/- THE CELL 'sum', in the pinned program and in every row, IS THE sha256 OF THE DUMP (.gsa) THAT YtpleefloaoljfaaDoorProg.lean LOADS. Nothing in Lean hashes anything: it is a label: what it is worth is what the hold of that sum in a sandbox is worth. -/
noncomputable def Tryd.pinned : Pinned := { name := "ytpleefloaoljfaadoor", sum := "f8aa0b68557c9a228875f44a32f8682647dd43dea5e41d2b6dd38a86d9661e5a", checked := Tryd.checked }
namespace Rows
def none {H : Type} : Left H := { results := [], args := [] }

/- WHAT THE LISTED PACKAGE-LEVEL VARIABLES READ AS WHEN THE CALL BEGINS. Each datum BY PROGRAM (the guide's laid-datum.mjs) off the statement by which the dump's own 'gosem.cut.vars' lays the variable. In a bare row this is a premise. The card (YtpleefloaoljfaaDoorCards.lean) ties it to the program's text. -/
def laid_errors_errorType {H : Type} : DataW H := .iface "internal/reflectlite.rtype" (.agg [.ptr (.lit (.string [101, 114, 114, 111, 114]))])

/-- 'bastionlaw6.Admins': WHATEVER THE INPUT: true; the input reads as it did. -/
def adminsSpec : ChangeSpec := { name := "admins", fn := fun _ => fun
  | [d1, d2] => { results := [.lit (.bool true)], args := [d1, d2] }
  | _ => none }
def adminsRow : OpenClaim := { program := "ytpleefloaoljfaadoor", sum := "f8aa0b68557c9a228875f44a32f8682647dd43dea5e41d2b6dd38a86d9661e5a", func := "bastion/bastionlaw6.Admins", spec := "admins", inPlace := ["internal/reflectlite.ValueOf", "(internal/reflectlite.Value).Type", "(internal/reflectlite.Value).IsNil", "internal/reflectlite.TypeOf", "(internal/reflectlite.Value).Elem", "(internal/reflectlite.Value).Set"], unfollowed := true, recurses := true, named := ["errors.errorType"], apart := false, laid := [("errors.errorType", laid_errors_errorType)] }
def AdminsSaid : Prop := adminsRow.holds Tryd.pinned (OpenSpec.ofChange adminsSpec)

/-- ITS FALSE NEIGHBOUR: 'it returns false'. Refute it at one input. -/
def adminsWrong : ChangeSpec := { name := "admins", fn := fun _ => fun
  | [d1, d2] => { results := [.lit (.bool false)], args := [d1, d2] }
  | _ => none }
def AdminsWrongFalsely : Prop := adminsRow.holds Tryd.pinned (OpenSpec.ofChange adminsWrong)

/-- 'bastionlaw6.AdminBack': WHATEVER THE INPUT: true; the input reads as it did. -/
def adminBackSpec : ChangeSpec := { name := "adminBack", fn := fun _ => fun
  | [d1, d2, d3] => { results := [.lit (.bool true)], args := [d1, d2, d3] }
  | _ => none }
def adminBackRow : OpenClaim := { program := "ytpleefloaoljfaadoor", sum := "f8aa0b68557c9a228875f44a32f8682647dd43dea5e41d2b6dd38a86d9661e5a", func := "bastion/bastionlaw6.AdminBack", spec := "adminBack", inPlace := ["internal/reflectlite.ValueOf", "(internal/reflectlite.Value).Type", "(internal/reflectlite.Value).IsNil", "internal/reflectlite.TypeOf", "(internal/reflectlite.Value).Elem", "(internal/reflectlite.Value).Set"], unfollowed := true, recurses := true, named := ["errors.errorType"], apart := false, laid := [("errors.errorType", laid_errors_errorType)] }
def AdminBackSaid : Prop := adminBackRow.holds Tryd.pinned (OpenSpec.ofChange adminBackSpec)

/-- ITS FALSE NEIGHBOUR: 'it returns false'. Refute it at one input. -/
def adminBackWrong : ChangeSpec := { name := "adminBack", fn := fun _ => fun
  | [d1, d2, d3] => { results := [.lit (.bool false)], args := [d1, d2, d3] }
  | _ => none }
def AdminBackWrongFalsely : Prop := adminBackRow.holds Tryd.pinned (OpenSpec.ofChange adminBackWrong)

/-- 'bastionlaw6.AdminUnlike': WHATEVER THE INPUT: true; the input reads as it did. -/
def adminUnlikeSpec : ChangeSpec := { name := "adminUnlike", fn := fun _ => fun
  | [d1, d2] => { results := [.lit (.bool true)], args := [d1, d2] }
  | _ => none }
def adminUnlikeRow : OpenClaim := { program := "ytpleefloaoljfaadoor", sum := "f8aa0b68557c9a228875f44a32f8682647dd43dea5e41d2b6dd38a86d9661e5a", func := "bastion/bastionlaw6.AdminUnlike", spec := "adminUnlike", inPlace := ["internal/reflectlite.ValueOf", "(internal/reflectlite.Value).Type", "(internal/reflectlite.Value).IsNil", "internal/reflectlite.TypeOf", "(internal/reflectlite.Value).Elem", "(internal/reflectlite.Value).Set"], unfollowed := true, recurses := true, named := ["errors.errorType"], apart := false, laid := [("errors.errorType", laid_errors_errorType)] }
def AdminUnlikeSaid : Prop := adminUnlikeRow.holds Tryd.pinned (OpenSpec.ofChange adminUnlikeSpec)

/-- ITS FALSE NEIGHBOUR: 'it returns false'. Refute it at one input. -/
def adminUnlikeWrong : ChangeSpec := { name := "adminUnlike", fn := fun _ => fun
  | [d1, d2] => { results := [.lit (.bool false)], args := [d1, d2] }
  | _ => none }
def AdminUnlikeWrongFalsely : Prop := adminUnlikeRow.holds Tryd.pinned (OpenSpec.ofChange adminUnlikeWrong)

/-- 'bastionlaw6.AdminForms': WHATEVER THE INPUT: true; the input reads as it did. -/
def adminFormsSpec : ChangeSpec := { name := "adminForms", fn := fun _ => fun
  | [d1, d2] => { results := [.lit (.bool true)], args := [d1, d2] }
  | _ => none }
def adminFormsRow : OpenClaim := { program := "ytpleefloaoljfaadoor", sum := "f8aa0b68557c9a228875f44a32f8682647dd43dea5e41d2b6dd38a86d9661e5a", func := "bastion/bastionlaw6.AdminForms", spec := "adminForms", inPlace := ["internal/reflectlite.ValueOf", "(internal/reflectlite.Value).Type", "(internal/reflectlite.Value).IsNil", "internal/reflectlite.TypeOf", "(internal/reflectlite.Value).Elem", "(internal/reflectlite.Value).Set"], unfollowed := true, recurses := true, named := ["errors.errorType"], apart := false, laid := [("errors.errorType", laid_errors_errorType)] }
def AdminFormsSaid : Prop := adminFormsRow.holds Tryd.pinned (OpenSpec.ofChange adminFormsSpec)

/-- ITS FALSE NEIGHBOUR: 'it returns false'. Refute it at one input. -/
def adminFormsWrong : ChangeSpec := { name := "adminForms", fn := fun _ => fun
  | [d1, d2] => { results := [.lit (.bool false)], args := [d1, d2] }
  | _ => none }
def AdminFormsWrongFalsely : Prop := adminFormsRow.holds Tryd.pinned (OpenSpec.ofChange adminFormsWrong)

/- THE SECOND FORM. 'bulk': how many values and letters a reading holds, each counted each time it is reached (what is shared counts as often as it is met; a slice's spare places count too). A statement '..UptoSaid' is the law's where the arguments, and the package variables that the reading takes, are together of bulk at most 1048576: NARROWER than '..Said'. Prove '..Said' where nothing that the law and all that it calls make is longer than what came in: it says more and counts as full. Else prove '..UptoSaid'. A law counts once. -/
mutual
def uptoBulk {H : Type} : DataW H → Nat
  | .lit (.string bytes) => bytes.length + 1
  | .lit _ => 1
  | .nil => 1
  | .ptr d => uptoBulk d + 1
  | .slice elems spare => uptoBulkAll elems + uptoBulkAll spare + 1
  | .agg parts => uptoBulkAll parts + 1
  | .iface _ d => uptoBulk d + 1
  | .map entries => uptoBulkEntries entries + 1
  | .held _ => 1
def uptoBulkAll {H : Type} : List (DataW H) → Nat
  | [] => 0
  | d :: r => uptoBulk d + uptoBulkAll r
def uptoBulkEntries {H : Type} : List (Lit × DataW H) → Nat
  | [] => 0
  | x :: r => uptoBulkEntry x + uptoBulkEntries r
def uptoBulkEntry {H : Type} : Lit × DataW H → Nat
  | (.string bytes, d) => bytes.length + uptoBulk d + 1
  | (_, d) => uptoBulk d + 1
 end
def uptoSmall : (H : Type) → List (DataW H) → Bool := fun _ ds => decide (uptoBulkAll ds ≤ 1048576)
def OpenSpec.upto (s : _root_.Go.ChangeSpec) : _root_.Go.OpenSpec := { _root_.Go.OpenSpec.ofChange s with cond := some uptoSmall }

/-- 'bastionlaw6.Admins', WHERE WHAT IT READS IS OF BULK AT MOST 1048576: true; the input reads as it did. -/
def adminsUptoRow : OpenClaim := { program := "ytpleefloaoljfaadoor", sum := "f8aa0b68557c9a228875f44a32f8682647dd43dea5e41d2b6dd38a86d9661e5a", func := "bastion/bastionlaw6.Admins", spec := "admins", inPlace := ["internal/reflectlite.ValueOf", "(internal/reflectlite.Value).Type", "(internal/reflectlite.Value).IsNil", "internal/reflectlite.TypeOf", "(internal/reflectlite.Value).Elem", "(internal/reflectlite.Value).Set"], unfollowed := true, recurses := true, named := ["errors.errorType"], apart := false, laid := [("errors.errorType", laid_errors_errorType)], narrowed := true }
def AdminsUptoSaid : Prop := adminsUptoRow.holds Tryd.pinned (OpenSpec.upto adminsSpec)

/-- 'bastionlaw6.AdminBack', WHERE WHAT IT READS IS OF BULK AT MOST 1048576: true; the input reads as it did. -/
def adminBackUptoRow : OpenClaim := { program := "ytpleefloaoljfaadoor", sum := "f8aa0b68557c9a228875f44a32f8682647dd43dea5e41d2b6dd38a86d9661e5a", func := "bastion/bastionlaw6.AdminBack", spec := "adminBack", inPlace := ["internal/reflectlite.ValueOf", "(internal/reflectlite.Value).Type", "(internal/reflectlite.Value).IsNil", "internal/reflectlite.TypeOf", "(internal/reflectlite.Value).Elem", "(internal/reflectlite.Value).Set"], unfollowed := true, recurses := true, named := ["errors.errorType"], apart := false, laid := [("errors.errorType", laid_errors_errorType)], narrowed := true }
def AdminBackUptoSaid : Prop := adminBackUptoRow.holds Tryd.pinned (OpenSpec.upto adminBackSpec)

/-- 'bastionlaw6.AdminUnlike', WHERE WHAT IT READS IS OF BULK AT MOST 1048576: true; the input reads as it did. -/
def adminUnlikeUptoRow : OpenClaim := { program := "ytpleefloaoljfaadoor", sum := "f8aa0b68557c9a228875f44a32f8682647dd43dea5e41d2b6dd38a86d9661e5a", func := "bastion/bastionlaw6.AdminUnlike", spec := "adminUnlike", inPlace := ["internal/reflectlite.ValueOf", "(internal/reflectlite.Value).Type", "(internal/reflectlite.Value).IsNil", "internal/reflectlite.TypeOf", "(internal/reflectlite.Value).Elem", "(internal/reflectlite.Value).Set"], unfollowed := true, recurses := true, named := ["errors.errorType"], apart := false, laid := [("errors.errorType", laid_errors_errorType)], narrowed := true }
def AdminUnlikeUptoSaid : Prop := adminUnlikeUptoRow.holds Tryd.pinned (OpenSpec.upto adminUnlikeSpec)

/-- 'bastionlaw6.AdminForms', WHERE WHAT IT READS IS OF BULK AT MOST 1048576: true; the input reads as it did. -/
def adminFormsUptoRow : OpenClaim := { program := "ytpleefloaoljfaadoor", sum := "f8aa0b68557c9a228875f44a32f8682647dd43dea5e41d2b6dd38a86d9661e5a", func := "bastion/bastionlaw6.AdminForms", spec := "adminForms", inPlace := ["internal/reflectlite.ValueOf", "(internal/reflectlite.Value).Type", "(internal/reflectlite.Value).IsNil", "internal/reflectlite.TypeOf", "(internal/reflectlite.Value).Elem", "(internal/reflectlite.Value).Set"], unfollowed := true, recurses := true, named := ["errors.errorType"], apart := false, laid := [("errors.errorType", laid_errors_errorType)], narrowed := true }
def AdminFormsUptoSaid : Prop := adminFormsUptoRow.holds Tryd.pinned (OpenSpec.upto adminFormsSpec)

end Rows
end Go.Proofs.YtpleefloaoljfaaDoor
