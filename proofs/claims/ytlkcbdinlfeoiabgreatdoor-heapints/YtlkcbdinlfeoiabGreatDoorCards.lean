/-
  DERIVED. GIVEN WITH THE SEED: THE CARDS: each row of YtlkcbdinlfeoiabGreatDoorRows.lean that lists a variable, with what it lists TIED to the program's text (the seventh form; the later family's looks); each row that meets fmt, with fmt's text TOLD by the authors' own Lean function (tested against real Go, not proved from fmt's source: count such statements apart). THE CARD IS WHAT COUNTS. Prove the row's statement (the work); the ties are given (YtlkcbdinlfeoiabGreatDoorTie.lean); close each card by the builder's one call (the guide's Derived/Test/ToyasCard.lean, 'card_holds'). Laid BY PROGRAM, IN A SANDBOX (cutbox-door.mjs). By AI agents, Wed Nov 11 2026. No macro, syntax, notation, axiom, sorry.
-/
import Derived.Test.YtlkcbdinlfeoiabGreatDoorRows
import GoSem.ClaimSeven
namespace Go.Proofs.YtlkcbdinlfeoiabGreatDoor
namespace Rows

/-- THE TIED CARD OF 'nurserypylaw3.HeapSerials'. -/
def heapSerialsCard : Claim7 := { stood := { row := heapSerialsRow, standIns := [], harness := (true, "9fa3cae0b880913e91906a43ec8fc043513d978cbdfc9e9988ccff783bc685ff"), looks := true }, kinds := [], alts := [], laidByText := true, laidKinds := [.data, .data, .data, .data, .sentinel, .sentinel, .sentinel, .sentinel, .pinned], laidTests := true, laidLooks := .later }
def HeapSerialsCardSaid : Prop := Claim7.holds Tryz.pinned (.plain (OpenSpec.ofChange heapSerialsSpec)) heapSerialsCard

/-- THE TIED CARD OF 'nurserypylaw3.HeapInts'. -/
def heapIntsCard : Claim7 := { stood := { row := heapIntsRow, standIns := [], harness := (true, "9fa3cae0b880913e91906a43ec8fc043513d978cbdfc9e9988ccff783bc685ff"), looks := true }, kinds := [], alts := [], laidByText := true, laidKinds := [.data, .data, .data, .data, .sentinel, .sentinel, .sentinel, .sentinel, .pinned], laidTests := true, laidLooks := .later }
def HeapIntsCardSaid : Prop := Claim7.holds Tryz.pinned (.plain (OpenSpec.ofChange heapIntsSpec)) heapIntsCard

/-- THE SECOND FORM's CARD OF 'nurserypylaw3.HeapSerials'. -/
def heapSerialsUptoCard : Claim7 := { stood := { row := heapSerialsUptoRow, standIns := [], harness := (true, "9fa3cae0b880913e91906a43ec8fc043513d978cbdfc9e9988ccff783bc685ff"), looks := true }, kinds := [], alts := [], laidByText := true, laidKinds := [.data, .data, .data, .data, .sentinel, .sentinel, .sentinel, .sentinel, .pinned], laidTests := true, laidLooks := .later }
def HeapSerialsUptoCardSaid : Prop := Claim7.holds Tryz.pinned (.plain (OpenSpec.upto heapSerialsSpec)) heapSerialsUptoCard

/-- THE SECOND FORM's CARD OF 'nurserypylaw3.HeapInts'. -/
def heapIntsUptoCard : Claim7 := { stood := { row := heapIntsUptoRow, standIns := [], harness := (true, "9fa3cae0b880913e91906a43ec8fc043513d978cbdfc9e9988ccff783bc685ff"), looks := true }, kinds := [], alts := [], laidByText := true, laidKinds := [.data, .data, .data, .data, .sentinel, .sentinel, .sentinel, .sentinel, .pinned], laidTests := true, laidLooks := .later }
def HeapIntsUptoCardSaid : Prop := Claim7.holds Tryz.pinned (.plain (OpenSpec.upto heapIntsSpec)) heapIntsUptoCard
end Rows
end Go.Proofs.YtlkcbdinlfeoiabGreatDoor
