/-
  NARROWER THAN 'FOR EVERY INPUT', by the rows' own cells (each row's printed sentence says how): MinorAges: laid · MinorGrows: laid.
  DERIVED. THE GIVEN ROWS OF THIS SEAT. 2 by the template 'for every input the law returns true; each argument reads behind the call as it read before'; 0 by the template 'total and deterministic' (their statements: YtopcpeemibmgbaaDoorTotals.lean).
  GIVEN WITH THE SEED: the statements are not yours to turn. If you find one false, say at which input.
  Laid BY PROGRAM, IN A SANDBOX (cutbox-rows.mjs): the forced cells as the released guide's own fill.sh prints them over the translation 33705d011a973596… (all of the seat's roots in one cut). By AI agents, Wed Nov 11 2026. No macro, syntax, notation, axiom, sorry.
-/
import Derived.Test.YtopcpeemibmgbaaDoorChecked
import GoSem.Claim
import GoSem.ClaimJoined
import GoSem.ClaimMapViews
import Derived.JoinedTies
import Derived.KernelRfl
namespace Go.Proofs.YtopcpeemibmgbaaDoor
/- THE CELL 'sum', in the pinned program and in every row, IS THE sha256 OF THE DUMP (.gsa) THAT YtopcpeemibmgbaaDoorProg.lean LOADS. Nothing in Lean hashes anything: it is a label: what it is worth is what the hold of that sum in a sandbox is worth. -/
noncomputable def Tryd.pinned : Pinned := { name := "ytopcpeemibmgbaadoor", sum := "33705d011a9735961a0e1e3f4bdf7a7cd381de9e82b8c31846e53f5674d2b5a9", checked := Tryd.checked }
namespace Rows
def none {H : Type} : Left H := { results := [], args := [] }

/- WHAT THE LISTED PACKAGE-LEVEL VARIABLES READ AS WHEN THE CALL BEGINS. Each datum BY PROGRAM (the guide's laid-datum.mjs) off the statement by which the dump's own 'gosem.cut.vars' lays the variable. In a bare row this is a premise. The card (YtopcpeemibmgbaaDoorCards.lean) ties it to the program's text. -/
def laid_nurserypy_api_ErrBound {H : Type} : DataW H := .iface "*errors.errorString" (.ptr (.agg [.lit (.string [110, 117, 114, 115, 101, 114, 121, 112, 121, 58, 32, 98, 111, 117, 110, 100])]))
def laid_nurserypy_api_ErrShape {H : Type} : DataW H := .iface "*errors.errorString" (.ptr (.agg [.lit (.string [110, 117, 114, 115, 101, 114, 121, 112, 121, 58, 32, 115, 104, 97, 112, 101])]))
def laid_nurserypy_api_ErrPlace {H : Type} : DataW H := .iface "*errors.errorString" (.ptr (.agg [.lit (.string [110, 117, 114, 115, 101, 114, 121, 112, 121, 58, 32, 112, 108, 97, 99, 101])]))
def laid_nurserypy_api_ErrFull {H : Type} : DataW H := .iface "*errors.errorString" (.ptr (.agg [.lit (.string [110, 117, 114, 115, 101, 114, 121, 112, 121, 58, 32, 102, 117, 108, 108])]))

/-- 'nurserypylaw3.MinorAges': WHATEVER THE INPUT: true; the input reads as it did. -/
def minorAgesSpec : ChangeSpec := { name := "minorAges", fn := fun _ => fun
  | [d1, d2] => { results := [.lit (.bool true)], args := [d1, d2] }
  | _ => none }
def minorAgesRow : OpenClaim := { program := "ytopcpeemibmgbaadoor", sum := "33705d011a9735961a0e1e3f4bdf7a7cd381de9e82b8c31846e53f5674d2b5a9", func := "nurserypy/nurserypylaw3.MinorAges", spec := "minorAges", unfollowed := true, recurses := true, named := ["nurserypy/api.ErrBound", "nurserypy/api.ErrShape", "nurserypy/api.ErrFull", "nurserypy/api.ErrPlace"], apart := false, laid := [("nurserypy/api.ErrBound", laid_nurserypy_api_ErrBound), ("nurserypy/api.ErrShape", laid_nurserypy_api_ErrShape), ("nurserypy/api.ErrPlace", laid_nurserypy_api_ErrPlace), ("nurserypy/api.ErrFull", laid_nurserypy_api_ErrFull)] }
def MinorAgesSaid : Prop := minorAgesRow.holds Tryd.pinned (OpenSpec.ofChange minorAgesSpec)

/-- ITS FALSE NEIGHBOUR: 'it returns false'. Refute it at one input. -/
def minorAgesWrong : ChangeSpec := { name := "minorAges", fn := fun _ => fun
  | [d1, d2] => { results := [.lit (.bool false)], args := [d1, d2] }
  | _ => none }
def MinorAgesWrongFalsely : Prop := minorAgesRow.holds Tryd.pinned (OpenSpec.ofChange minorAgesWrong)

/-- 'nurserypylaw3.MinorGrows': WHATEVER THE INPUT: true; the input reads as it did. -/
def minorGrowsSpec : ChangeSpec := { name := "minorGrows", fn := fun _ => fun
  | [d1, d2] => { results := [.lit (.bool true)], args := [d1, d2] }
  | _ => none }
def minorGrowsRow : OpenClaim := { program := "ytopcpeemibmgbaadoor", sum := "33705d011a9735961a0e1e3f4bdf7a7cd381de9e82b8c31846e53f5674d2b5a9", func := "nurserypy/nurserypylaw3.MinorGrows", spec := "minorGrows", unfollowed := true, recurses := true, named := ["nurserypy/api.ErrBound", "nurserypy/api.ErrShape", "nurserypy/api.ErrFull", "nurserypy/api.ErrPlace"], apart := false, laid := [("nurserypy/api.ErrBound", laid_nurserypy_api_ErrBound), ("nurserypy/api.ErrShape", laid_nurserypy_api_ErrShape), ("nurserypy/api.ErrPlace", laid_nurserypy_api_ErrPlace), ("nurserypy/api.ErrFull", laid_nurserypy_api_ErrFull)] }
def MinorGrowsSaid : Prop := minorGrowsRow.holds Tryd.pinned (OpenSpec.ofChange minorGrowsSpec)

/-- ITS FALSE NEIGHBOUR: 'it returns false'. Refute it at one input. -/
def minorGrowsWrong : ChangeSpec := { name := "minorGrows", fn := fun _ => fun
  | [d1, d2] => { results := [.lit (.bool false)], args := [d1, d2] }
  | _ => none }
def MinorGrowsWrongFalsely : Prop := minorGrowsRow.holds Tryd.pinned (OpenSpec.ofChange minorGrowsWrong)

/- THE SECOND FORM. 'bulk': how many values and letters a reading holds, each counted each time it is reached (what is shared counts as often as it is met; a slice's spare places count too). A statement '..UptoSaid' is the law's where the arguments, and the package variables that the reading takes, are together of bulk at most 1048576: NARROWER than '..Said'. Prove '..Said' where nothing that the law and all that it calls make is longer than what came in: it says more and counts as full. Else prove '..UptoSaid'. A law counts once. -/
mutual
def uptoBulk {H : Type} : DataW H → Nat
  | .lit (.string bytes) => bytes.length + 1
  | .lit _ => 1
  | .nil => 1
  | .ptr d => uptoBulk d + 1
  | .slice elems spare => uptoBulkAll elems + uptoBulkAll spare + 1
  | .agg parts => uptoBulkAll parts + 1
  | .iface _ d => uptoBulk d + 1
  | .map entries => uptoBulkEntries entries + 1
  | .held _ => 1
def uptoBulkAll {H : Type} : List (DataW H) → Nat
  | [] => 0
  | d :: r => uptoBulk d + uptoBulkAll r
def uptoBulkEntries {H : Type} : List (Lit × DataW H) → Nat
  | [] => 0
  | x :: r => uptoBulkEntry x + uptoBulkEntries r
def uptoBulkEntry {H : Type} : Lit × DataW H → Nat
  | (.string bytes, d) => bytes.length + uptoBulk d + 1
  | (_, d) => uptoBulk d + 1
 end
def uptoSmall : (H : Type) → List (DataW H) → Bool := fun _ ds => decide (uptoBulkAll ds ≤ 1048576)
def OpenSpec.upto (s : _root_.Go.ChangeSpec) : _root_.Go.OpenSpec := { _root_.Go.OpenSpec.ofChange s with cond := some uptoSmall }

/-- 'nurserypylaw3.MinorAges', WHERE WHAT IT READS IS OF BULK AT MOST 1048576: true; the input reads as it did. -/
def minorAgesUptoRow : OpenClaim := { program := "ytopcpeemibmgbaadoor", sum := "33705d011a9735961a0e1e3f4bdf7a7cd381de9e82b8c31846e53f5674d2b5a9", func := "nurserypy/nurserypylaw3.MinorAges", spec := "minorAges", unfollowed := true, recurses := true, named := ["nurserypy/api.ErrBound", "nurserypy/api.ErrShape", "nurserypy/api.ErrFull", "nurserypy/api.ErrPlace"], apart := false, laid := [("nurserypy/api.ErrBound", laid_nurserypy_api_ErrBound), ("nurserypy/api.ErrShape", laid_nurserypy_api_ErrShape), ("nurserypy/api.ErrPlace", laid_nurserypy_api_ErrPlace), ("nurserypy/api.ErrFull", laid_nurserypy_api_ErrFull)], narrowed := true }
def MinorAgesUptoSaid : Prop := minorAgesUptoRow.holds Tryd.pinned (OpenSpec.upto minorAgesSpec)

/-- 'nurserypylaw3.MinorGrows', WHERE WHAT IT READS IS OF BULK AT MOST 1048576: true; the input reads as it did. -/
def minorGrowsUptoRow : OpenClaim := { program := "ytopcpeemibmgbaadoor", sum := "33705d011a9735961a0e1e3f4bdf7a7cd381de9e82b8c31846e53f5674d2b5a9", func := "nurserypy/nurserypylaw3.MinorGrows", spec := "minorGrows", unfollowed := true, recurses := true, named := ["nurserypy/api.ErrBound", "nurserypy/api.ErrShape", "nurserypy/api.ErrFull", "nurserypy/api.ErrPlace"], apart := false, laid := [("nurserypy/api.ErrBound", laid_nurserypy_api_ErrBound), ("nurserypy/api.ErrShape", laid_nurserypy_api_ErrShape), ("nurserypy/api.ErrPlace", laid_nurserypy_api_ErrPlace), ("nurserypy/api.ErrFull", laid_nurserypy_api_ErrFull)], narrowed := true }
def MinorGrowsUptoSaid : Prop := minorGrowsUptoRow.holds Tryd.pinned (OpenSpec.upto minorGrowsSpec)

end Rows
end Go.Proofs.YtopcpeemibmgbaaDoor
