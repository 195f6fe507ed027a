/-
  DERIVED. GIVEN WITH THE SEED: THE CARDS: each row of YtknjeecjhahbaaaGreatDoorRows.lean that lists a variable, with what it lists TIED to the program's text (the seventh form; the later family's looks); each row that meets fmt, with fmt's text TOLD by the authors' own Lean function (tested against real Go, not proved from fmt's source: count such statements apart). THE CARD IS WHAT COUNTS. Prove the row's statement (the work); the ties are given (YtknjeecjhahbaaaGreatDoorTie.lean); close each card by the builder's one call (the guide's Derived/Test/ToyasCard.lean, 'card_holds'). Laid BY PROGRAM, IN A SANDBOX (cutbox-door.mjs). By AI agents, Wed Nov 11 2026. No macro, syntax, notation, axiom, sorry.
-/
import Derived.Test.YtknjeecjhahbaaaGreatDoorRows
import GoSem.ClaimSeven
namespace Go.Proofs.YtknjeecjhahbaaaGreatDoor
namespace Rows

/-- THE TIED CARD OF 'nurserypylaw1.TreeBrackets'. -/
def treeBracketsCard : Claim7 := { stood := { row := treeBracketsRow, standIns := [], harness := (true, "69d1f9bea3f00c994e91634578cd344eca8a9bf8290b44c31b405472f1239f2a"), looks := true }, kinds := [], alts := [], laidByText := true, laidKinds := [.data, .data, .data, .handle, .sentinel, .sentinel, .sentinel, .sentinel, .sentinel, .sentinel, .sentinel, .sentinel, .sentinel, .data, .data], laidTests := true, laidLooks := .later }
def TreeBracketsCardSaid : Prop := Claim7.holds Tryz.pinned (.plain (OpenSpec.ofChange treeBracketsSpec)) treeBracketsCard

/-- THE TIED CARD OF 'nurserypylaw1.TreeElif'. -/
def treeElifCard : Claim7 := { stood := { row := treeElifRow, standIns := [], harness := (true, "69d1f9bea3f00c994e91634578cd344eca8a9bf8290b44c31b405472f1239f2a"), looks := true }, kinds := [], alts := [], laidByText := true, laidKinds := [.data, .data, .data, .sentinel, .sentinel, .sentinel, .sentinel, .sentinel, .data, .data], laidTests := true, laidLooks := .later }
def TreeElifCardSaid : Prop := Claim7.holds Tryz.pinned (.plain (OpenSpec.ofChange treeElifSpec)) treeElifCard

/-- THE SECOND FORM's CARD OF 'nurserypylaw1.TreeBrackets'. -/
def treeBracketsUptoCard : Claim7 := { stood := { row := treeBracketsUptoRow, standIns := [], harness := (true, "69d1f9bea3f00c994e91634578cd344eca8a9bf8290b44c31b405472f1239f2a"), looks := true }, kinds := [], alts := [], laidByText := true, laidKinds := [.data, .data, .data, .handle, .sentinel, .sentinel, .sentinel, .sentinel, .sentinel, .sentinel, .sentinel, .sentinel, .sentinel, .data, .data], laidTests := true, laidLooks := .later }
def TreeBracketsUptoCardSaid : Prop := Claim7.holds Tryz.pinned (.plain (OpenSpec.upto treeBracketsSpec)) treeBracketsUptoCard

/-- THE SECOND FORM's CARD OF 'nurserypylaw1.TreeElif'. -/
def treeElifUptoCard : Claim7 := { stood := { row := treeElifUptoRow, standIns := [], harness := (true, "69d1f9bea3f00c994e91634578cd344eca8a9bf8290b44c31b405472f1239f2a"), looks := true }, kinds := [], alts := [], laidByText := true, laidKinds := [.data, .data, .data, .sentinel, .sentinel, .sentinel, .sentinel, .sentinel, .data, .data], laidTests := true, laidLooks := .later }
def TreeElifUptoCardSaid : Prop := Claim7.holds Tryz.pinned (.plain (OpenSpec.upto treeElifSpec)) treeElifUptoCard
end Rows
end Go.Proofs.YtknjeecjhahbaaaGreatDoor
