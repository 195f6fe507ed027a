/-
  NARROWER THAN 'FOR EVERY INPUT', by the rows' own cells (each row's printed sentence says how): MajorKeeps: laid · MajorOrder: laid · MinorKeeps: laid · MajorTwice: laid.
  DERIVED. THE GIVEN ROWS OF THIS SEAT. 4 by the template 'for every input the law returns true; each argument reads behind the call as it read before'; 0 by the template 'total and deterministic' (their statements: YtnenggkgfhgcnaaGreatDoorTotals.lean).
  GIVEN WITH THE SEED: the statements are not yours to turn. If you find one false, say at which input.
  Laid BY PROGRAM, IN A SANDBOX (cutbox-rows.mjs): the forced cells as the released guide's own fill.sh prints them over the translation 37382fa55fb411e4… (all of the seat's roots in one cut). By AI agents, Wed Nov 11 2026. No macro, syntax, notation, axiom, sorry.
-/
import Derived.Test.YtnenggkgfhgcnaaGreatDoorChecked
import GoSem.Claim
import GoSem.ClaimJoined
import GoSem.ClaimMapViews
import Derived.JoinedTies
import Derived.KernelRfl
namespace Go.Proofs.YtnenggkgfhgcnaaGreatDoor
/- THE CELL 'sum', in the pinned program and in every row, IS THE sha256 OF THE DUMP (.gsa) THAT YtnenggkgfhgcnaaGreatDoorProg.lean LOADS. Nothing in Lean hashes anything: it is a label: what it is worth is what the hold of that sum in a sandbox is worth. -/
noncomputable def Tryz.pinned : Pinned := { name := "ytnenggkgfhgcnaagreatdoor", sum := "37382fa55fb411e42f881ead60785403809b7f8ea8d1c3cbe76f401305d6a1b3", checked := Tryz.checked }
namespace Rows
def none {H : Type} : Left H := { results := [], args := [] }

/- WHAT THE LISTED PACKAGE-LEVEL VARIABLES READ AS WHEN THE CALL BEGINS. Each datum BY PROGRAM (the guide's laid-datum.mjs) off the statement by which the dump's own 'gosem.cut.vars' lays the variable. In a bare row this is a premise. The card (YtnenggkgfhgcnaaGreatDoorCards.lean) ties it to the program's text. -/
def laid_errors_errorType {H : Type} : DataW H := .iface "internal/reflectlite.rtype" (.agg [.ptr (.lit (.string [101, 114, 114, 111, 114]))])
def laid_nurserypy_api_ErrText {H : Type} : DataW H := .iface "*errors.errorString" (.ptr (.agg [.lit (.string [110, 117, 114, 115, 101, 114, 121, 112, 121, 58, 32, 116, 101, 120, 116])]))
def laid_nurserypy_api_ErrBound {H : Type} : DataW H := .iface "*errors.errorString" (.ptr (.agg [.lit (.string [110, 117, 114, 115, 101, 114, 121, 112, 121, 58, 32, 98, 111, 117, 110, 100])]))
def laid_nurserypy_api_ErrShape {H : Type} : DataW H := .iface "*errors.errorString" (.ptr (.agg [.lit (.string [110, 117, 114, 115, 101, 114, 121, 112, 121, 58, 32, 115, 104, 97, 112, 101])]))
def laid_nurserypy_api_ErrName {H : Type} : DataW H := .iface "*errors.errorString" (.ptr (.agg [.lit (.string [110, 117, 114, 115, 101, 114, 121, 112, 121, 58, 32, 110, 97, 109, 101])]))
def laid_nurserypy_api_ErrPlace {H : Type} : DataW H := .iface "*errors.errorString" (.ptr (.agg [.lit (.string [110, 117, 114, 115, 101, 114, 121, 112, 121, 58, 32, 112, 108, 97, 99, 101])]))
def laid_nurserypy_api_ErrFull {H : Type} : DataW H := .iface "*errors.errorString" (.ptr (.agg [.lit (.string [110, 117, 114, 115, 101, 114, 121, 112, 121, 58, 32, 102, 117, 108, 108])]))
def laid_nurserypy_api_ErrNone {H : Type} : DataW H := .iface "*errors.errorString" (.ptr (.agg [.lit (.string [110, 117, 114, 115, 101, 114, 121, 112, 121, 58, 32, 110, 111, 110, 101])]))

/-- 'nurserypylaw3.MajorKeeps': WHATEVER THE INPUT: true; the input reads as it did. -/
def majorKeepsSpec : ChangeSpec := { name := "majorKeeps", fn := fun _ => fun
  | [d] => { results := [.lit (.bool true)], args := [d] }
  | _ => none }
def majorKeepsRow : OpenClaim := { program := "ytnenggkgfhgcnaagreatdoor", sum := "37382fa55fb411e42f881ead60785403809b7f8ea8d1c3cbe76f401305d6a1b3", func := "nurserypy/nurserypylaw3.MajorKeeps", spec := "majorKeeps", inPlace := ["internal/reflectlite.ValueOf", "(internal/reflectlite.Value).Type", "(internal/reflectlite.Value).IsNil", "internal/reflectlite.TypeOf", "(internal/reflectlite.Value).Elem", "(internal/reflectlite.Value).Set"], unfollowed := true, recurses := true, named := ["nurserypy/api.ErrBound", "nurserypy/api.ErrShape", "nurserypy/api.ErrFull", "nurserypy/api.ErrPlace", "nurserypy/api.ErrText", "nurserypy/api.ErrName", "nurserypy/api.ErrNone", "errors.errorType"], apart := false, laid := [("errors.errorType", laid_errors_errorType), ("nurserypy/api.ErrText", laid_nurserypy_api_ErrText), ("nurserypy/api.ErrBound", laid_nurserypy_api_ErrBound), ("nurserypy/api.ErrShape", laid_nurserypy_api_ErrShape), ("nurserypy/api.ErrName", laid_nurserypy_api_ErrName), ("nurserypy/api.ErrPlace", laid_nurserypy_api_ErrPlace), ("nurserypy/api.ErrFull", laid_nurserypy_api_ErrFull), ("nurserypy/api.ErrNone", laid_nurserypy_api_ErrNone)] }
def MajorKeepsSaid : Prop := majorKeepsRow.holds Tryz.pinned (OpenSpec.ofChange majorKeepsSpec)

/-- ITS FALSE NEIGHBOUR: 'it returns false'. Refute it at one input. -/
def majorKeepsWrong : ChangeSpec := { name := "majorKeeps", fn := fun _ => fun
  | [d] => { results := [.lit (.bool false)], args := [d] }
  | _ => none }
def MajorKeepsWrongFalsely : Prop := majorKeepsRow.holds Tryz.pinned (OpenSpec.ofChange majorKeepsWrong)

/-- 'nurserypylaw3.MajorOrder': WHATEVER THE INPUT: true; the input reads as it did. -/
def majorOrderSpec : ChangeSpec := { name := "majorOrder", fn := fun _ => fun
  | [d] => { results := [.lit (.bool true)], args := [d] }
  | _ => none }
def majorOrderRow : OpenClaim := { program := "ytnenggkgfhgcnaagreatdoor", sum := "37382fa55fb411e42f881ead60785403809b7f8ea8d1c3cbe76f401305d6a1b3", func := "nurserypy/nurserypylaw3.MajorOrder", spec := "majorOrder", unfollowed := true, recurses := true, named := ["nurserypy/api.ErrBound", "nurserypy/api.ErrShape", "nurserypy/api.ErrFull", "nurserypy/api.ErrPlace"], apart := false, laid := [("nurserypy/api.ErrBound", laid_nurserypy_api_ErrBound), ("nurserypy/api.ErrShape", laid_nurserypy_api_ErrShape), ("nurserypy/api.ErrPlace", laid_nurserypy_api_ErrPlace), ("nurserypy/api.ErrFull", laid_nurserypy_api_ErrFull)] }
def MajorOrderSaid : Prop := majorOrderRow.holds Tryz.pinned (OpenSpec.ofChange majorOrderSpec)

/-- ITS FALSE NEIGHBOUR: 'it returns false'. Refute it at one input. -/
def majorOrderWrong : ChangeSpec := { name := "majorOrder", fn := fun _ => fun
  | [d] => { results := [.lit (.bool false)], args := [d] }
  | _ => none }
def MajorOrderWrongFalsely : Prop := majorOrderRow.holds Tryz.pinned (OpenSpec.ofChange majorOrderWrong)

/-- 'nurserypylaw3.MinorKeeps': WHATEVER THE INPUT: true; the input reads as it did. -/
def minorKeepsSpec : ChangeSpec := { name := "minorKeeps", fn := fun _ => fun
  | [d1, d2] => { results := [.lit (.bool true)], args := [d1, d2] }
  | _ => none }
def minorKeepsRow : OpenClaim := { program := "ytnenggkgfhgcnaagreatdoor", sum := "37382fa55fb411e42f881ead60785403809b7f8ea8d1c3cbe76f401305d6a1b3", func := "nurserypy/nurserypylaw3.MinorKeeps", spec := "minorKeeps", inPlace := ["internal/reflectlite.ValueOf", "(internal/reflectlite.Value).Type", "(internal/reflectlite.Value).IsNil", "internal/reflectlite.TypeOf", "(internal/reflectlite.Value).Elem", "(internal/reflectlite.Value).Set"], unfollowed := true, recurses := true, named := ["nurserypy/api.ErrBound", "nurserypy/api.ErrShape", "nurserypy/api.ErrFull", "nurserypy/api.ErrPlace", "nurserypy/api.ErrText", "nurserypy/api.ErrName", "nurserypy/api.ErrNone", "errors.errorType"], apart := false, laid := [("errors.errorType", laid_errors_errorType), ("nurserypy/api.ErrText", laid_nurserypy_api_ErrText), ("nurserypy/api.ErrBound", laid_nurserypy_api_ErrBound), ("nurserypy/api.ErrShape", laid_nurserypy_api_ErrShape), ("nurserypy/api.ErrName", laid_nurserypy_api_ErrName), ("nurserypy/api.ErrPlace", laid_nurserypy_api_ErrPlace), ("nurserypy/api.ErrFull", laid_nurserypy_api_ErrFull), ("nurserypy/api.ErrNone", laid_nurserypy_api_ErrNone)] }
def MinorKeepsSaid : Prop := minorKeepsRow.holds Tryz.pinned (OpenSpec.ofChange minorKeepsSpec)

/-- ITS FALSE NEIGHBOUR: 'it returns false'. Refute it at one input. -/
def minorKeepsWrong : ChangeSpec := { name := "minorKeeps", fn := fun _ => fun
  | [d1, d2] => { results := [.lit (.bool false)], args := [d1, d2] }
  | _ => none }
def MinorKeepsWrongFalsely : Prop := minorKeepsRow.holds Tryz.pinned (OpenSpec.ofChange minorKeepsWrong)

/-- 'nurserypylaw3.MajorTwice': WHATEVER THE INPUT: true; the input reads as it did. -/
def majorTwiceSpec : ChangeSpec := { name := "majorTwice", fn := fun _ => fun
  | [d1, d2] => { results := [.lit (.bool true)], args := [d1, d2] }
  | _ => none }
def majorTwiceRow : OpenClaim := { program := "ytnenggkgfhgcnaagreatdoor", sum := "37382fa55fb411e42f881ead60785403809b7f8ea8d1c3cbe76f401305d6a1b3", func := "nurserypy/nurserypylaw3.MajorTwice", spec := "majorTwice", unfollowed := true, recurses := true, named := ["nurserypy/api.ErrBound", "nurserypy/api.ErrShape", "nurserypy/api.ErrFull", "nurserypy/api.ErrPlace"], apart := false, laid := [("nurserypy/api.ErrBound", laid_nurserypy_api_ErrBound), ("nurserypy/api.ErrShape", laid_nurserypy_api_ErrShape), ("nurserypy/api.ErrPlace", laid_nurserypy_api_ErrPlace), ("nurserypy/api.ErrFull", laid_nurserypy_api_ErrFull)] }
def MajorTwiceSaid : Prop := majorTwiceRow.holds Tryz.pinned (OpenSpec.ofChange majorTwiceSpec)

/-- ITS FALSE NEIGHBOUR: 'it returns false'. Refute it at one input. -/
def majorTwiceWrong : ChangeSpec := { name := "majorTwice", fn := fun _ => fun
  | [d1, d2] => { results := [.lit (.bool false)], args := [d1, d2] }
  | _ => none }
def MajorTwiceWrongFalsely : Prop := majorTwiceRow.holds Tryz.pinned (OpenSpec.ofChange majorTwiceWrong)

/- THE SECOND FORM. 'bulk': how many values and letters a reading holds, each counted each time it is reached (what is shared counts as often as it is met; a slice's spare places count too). A statement '..UptoSaid' is the law's where the arguments, and the package variables that the reading takes, are together of bulk at most 1048576: NARROWER than '..Said'. Prove '..Said' where nothing that the law and all that it calls make is longer than what came in: it says more and counts as full. Else prove '..UptoSaid'. A law counts once. -/
mutual
def uptoBulk {H : Type} : DataW H → Nat
  | .lit (.string bytes) => bytes.length + 1
  | .lit _ => 1
  | .nil => 1
  | .ptr d => uptoBulk d + 1
  | .slice elems spare => uptoBulkAll elems + uptoBulkAll spare + 1
  | .agg parts => uptoBulkAll parts + 1
  | .iface _ d => uptoBulk d + 1
  | .map entries => uptoBulkEntries entries + 1
  | .held _ => 1
def uptoBulkAll {H : Type} : List (DataW H) → Nat
  | [] => 0
  | d :: r => uptoBulk d + uptoBulkAll r
def uptoBulkEntries {H : Type} : List (Lit × DataW H) → Nat
  | [] => 0
  | x :: r => uptoBulkEntry x + uptoBulkEntries r
def uptoBulkEntry {H : Type} : Lit × DataW H → Nat
  | (.string bytes, d) => bytes.length + uptoBulk d + 1
  | (_, d) => uptoBulk d + 1
 end
def uptoSmall : (H : Type) → List (DataW H) → Bool := fun _ ds => decide (uptoBulkAll ds ≤ 1048576)
def OpenSpec.upto (s : _root_.Go.ChangeSpec) : _root_.Go.OpenSpec := { _root_.Go.OpenSpec.ofChange s with cond := some uptoSmall }

/-- 'nurserypylaw3.MajorKeeps', WHERE WHAT IT READS IS OF BULK AT MOST 1048576: true; the input reads as it did. -/
def majorKeepsUptoRow : OpenClaim := { program := "ytnenggkgfhgcnaagreatdoor", sum := "37382fa55fb411e42f881ead60785403809b7f8ea8d1c3cbe76f401305d6a1b3", func := "nurserypy/nurserypylaw3.MajorKeeps", spec := "majorKeeps", inPlace := ["internal/reflectlite.ValueOf", "(internal/reflectlite.Value).Type", "(internal/reflectlite.Value).IsNil", "internal/reflectlite.TypeOf", "(internal/reflectlite.Value).Elem", "(internal/reflectlite.Value).Set"], unfollowed := true, recurses := true, named := ["nurserypy/api.ErrBound", "nurserypy/api.ErrShape", "nurserypy/api.ErrFull", "nurserypy/api.ErrPlace", "nurserypy/api.ErrText", "nurserypy/api.ErrName", "nurserypy/api.ErrNone", "errors.errorType"], apart := false, laid := [("errors.errorType", laid_errors_errorType), ("nurserypy/api.ErrText", laid_nurserypy_api_ErrText), ("nurserypy/api.ErrBound", laid_nurserypy_api_ErrBound), ("nurserypy/api.ErrShape", laid_nurserypy_api_ErrShape), ("nurserypy/api.ErrName", laid_nurserypy_api_ErrName), ("nurserypy/api.ErrPlace", laid_nurserypy_api_ErrPlace), ("nurserypy/api.ErrFull", laid_nurserypy_api_ErrFull), ("nurserypy/api.ErrNone", laid_nurserypy_api_ErrNone)], narrowed := true }
def MajorKeepsUptoSaid : Prop := majorKeepsUptoRow.holds Tryz.pinned (OpenSpec.upto majorKeepsSpec)

/-- 'nurserypylaw3.MajorOrder', WHERE WHAT IT READS IS OF BULK AT MOST 1048576: true; the input reads as it did. -/
def majorOrderUptoRow : OpenClaim := { program := "ytnenggkgfhgcnaagreatdoor", sum := "37382fa55fb411e42f881ead60785403809b7f8ea8d1c3cbe76f401305d6a1b3", func := "nurserypy/nurserypylaw3.MajorOrder", spec := "majorOrder", unfollowed := true, recurses := true, named := ["nurserypy/api.ErrBound", "nurserypy/api.ErrShape", "nurserypy/api.ErrFull", "nurserypy/api.ErrPlace"], apart := false, laid := [("nurserypy/api.ErrBound", laid_nurserypy_api_ErrBound), ("nurserypy/api.ErrShape", laid_nurserypy_api_ErrShape), ("nurserypy/api.ErrPlace", laid_nurserypy_api_ErrPlace), ("nurserypy/api.ErrFull", laid_nurserypy_api_ErrFull)], narrowed := true }
def MajorOrderUptoSaid : Prop := majorOrderUptoRow.holds Tryz.pinned (OpenSpec.upto majorOrderSpec)

/-- 'nurserypylaw3.MinorKeeps', WHERE WHAT IT READS IS OF BULK AT MOST 1048576: true; the input reads as it did. -/
def minorKeepsUptoRow : OpenClaim := { program := "ytnenggkgfhgcnaagreatdoor", sum := "37382fa55fb411e42f881ead60785403809b7f8ea8d1c3cbe76f401305d6a1b3", func := "nurserypy/nurserypylaw3.MinorKeeps", spec := "minorKeeps", inPlace := ["internal/reflectlite.ValueOf", "(internal/reflectlite.Value).Type", "(internal/reflectlite.Value).IsNil", "internal/reflectlite.TypeOf", "(internal/reflectlite.Value).Elem", "(internal/reflectlite.Value).Set"], unfollowed := true, recurses := true, named := ["nurserypy/api.ErrBound", "nurserypy/api.ErrShape", "nurserypy/api.ErrFull", "nurserypy/api.ErrPlace", "nurserypy/api.ErrText", "nurserypy/api.ErrName", "nurserypy/api.ErrNone", "errors.errorType"], apart := false, laid := [("errors.errorType", laid_errors_errorType), ("nurserypy/api.ErrText", laid_nurserypy_api_ErrText), ("nurserypy/api.ErrBound", laid_nurserypy_api_ErrBound), ("nurserypy/api.ErrShape", laid_nurserypy_api_ErrShape), ("nurserypy/api.ErrName", laid_nurserypy_api_ErrName), ("nurserypy/api.ErrPlace", laid_nurserypy_api_ErrPlace), ("nurserypy/api.ErrFull", laid_nurserypy_api_ErrFull), ("nurserypy/api.ErrNone", laid_nurserypy_api_ErrNone)], narrowed := true }
def MinorKeepsUptoSaid : Prop := minorKeepsUptoRow.holds Tryz.pinned (OpenSpec.upto minorKeepsSpec)

/-- 'nurserypylaw3.MajorTwice', WHERE WHAT IT READS IS OF BULK AT MOST 1048576: true; the input reads as it did. -/
def majorTwiceUptoRow : OpenClaim := { program := "ytnenggkgfhgcnaagreatdoor", sum := "37382fa55fb411e42f881ead60785403809b7f8ea8d1c3cbe76f401305d6a1b3", func := "nurserypy/nurserypylaw3.MajorTwice", spec := "majorTwice", unfollowed := true, recurses := true, named := ["nurserypy/api.ErrBound", "nurserypy/api.ErrShape", "nurserypy/api.ErrFull", "nurserypy/api.ErrPlace"], apart := false, laid := [("nurserypy/api.ErrBound", laid_nurserypy_api_ErrBound), ("nurserypy/api.ErrShape", laid_nurserypy_api_ErrShape), ("nurserypy/api.ErrPlace", laid_nurserypy_api_ErrPlace), ("nurserypy/api.ErrFull", laid_nurserypy_api_ErrFull)], narrowed := true }
def MajorTwiceUptoSaid : Prop := majorTwiceUptoRow.holds Tryz.pinned (OpenSpec.upto majorTwiceSpec)

end Rows
end Go.Proofs.YtnenggkgfhgcnaaGreatDoor
