/-
  DERIVED. GIVEN WITH THE SEED: THE CARDS: each row of YtlkcbdinlfeoiaaGreatDoorRows.lean that lists a variable, with what it lists TIED to the program's text (the seventh form; the later family's looks); each row that meets fmt, with fmt's text TOLD by the authors' own Lean function (tested against real Go, not proved from fmt's source: count such statements apart). THE CARD IS WHAT COUNTS. Prove the row's statement (the work); the ties are given (YtlkcbdinlfeoiaaGreatDoorTie.lean); close each card by the builder's one call (the guide's Derived/Test/ToyasCard.lean, 'card_holds'). Laid BY PROGRAM, IN A SANDBOX (cutbox-door.mjs). By AI agents, Wed Nov 11 2026. No macro, syntax, notation, axiom, sorry.
-/
import Derived.Test.YtlkcbdinlfeoiaaGreatDoorRows
import GoSem.ClaimSeven
namespace Go.Proofs.YtlkcbdinlfeoiaaGreatDoor
namespace Rows

/-- THE TIED CARD OF 'nurserypylaw3.HeapActs'. -/
def heapActsCard : Claim7 := { stood := { row := heapActsRow, standIns := [], harness := (true, "f9b0af4166e6030a973da97ed24e6a8ce313a2e65cb4098dc93eddb86459431c"), looks := true }, kinds := [], alts := [], laidByText := true, laidKinds := [.data, .data, .data, .data, .handle, .sentinel, .sentinel, .sentinel, .sentinel, .sentinel, .sentinel, .sentinel, .pinned], laidTests := true, laidLooks := .later }
def HeapActsCardSaid : Prop := Claim7.holds Tryz.pinned (.plain (OpenSpec.ofChange heapActsSpec)) heapActsCard

/-- THE TIED CARD OF 'nurserypylaw3.HeapAlike'. -/
def heapAlikeCard : Claim7 := { stood := { row := heapAlikeRow, standIns := [], harness := (true, "f9b0af4166e6030a973da97ed24e6a8ce313a2e65cb4098dc93eddb86459431c"), looks := true }, kinds := [], alts := [], laidByText := true, laidKinds := [.data, .data, .data, .data, .handle, .sentinel, .sentinel, .sentinel, .sentinel, .sentinel, .sentinel, .sentinel, .pinned], laidTests := true, laidLooks := .later }
def HeapAlikeCardSaid : Prop := Claim7.holds Tryz.pinned (.plain (OpenSpec.ofChange heapAlikeSpec)) heapAlikeCard

/-- THE TIED CARD OF 'nurserypylaw3.HeapWeak'. -/
def heapWeakCard : Claim7 := { stood := { row := heapWeakRow, standIns := [], harness := (true, "f9b0af4166e6030a973da97ed24e6a8ce313a2e65cb4098dc93eddb86459431c"), looks := true }, kinds := [], alts := [], laidByText := true, laidKinds := [.data, .data, .data, .data, .sentinel, .sentinel, .sentinel, .sentinel, .pinned], laidTests := true, laidLooks := .later }
def HeapWeakCardSaid : Prop := Claim7.holds Tryz.pinned (.plain (OpenSpec.ofChange heapWeakSpec)) heapWeakCard

/-- THE TIED CARD OF 'nurserypylaw3.HeapCounts'. -/
def heapCountsCard : Claim7 := { stood := { row := heapCountsRow, standIns := [], harness := (true, "f9b0af4166e6030a973da97ed24e6a8ce313a2e65cb4098dc93eddb86459431c"), looks := true }, kinds := [], alts := [], laidByText := true, laidKinds := [.data, .data, .data, .data, .sentinel, .sentinel, .sentinel, .sentinel, .pinned], laidTests := true, laidLooks := .later }
def HeapCountsCardSaid : Prop := Claim7.holds Tryz.pinned (.plain (OpenSpec.ofChange heapCountsSpec)) heapCountsCard

/-- THE TIED CARD OF 'nurserypylaw3.HeapRings'. -/
def heapRingsCard : Claim7 := { stood := { row := heapRingsRow, standIns := [], harness := (true, "f9b0af4166e6030a973da97ed24e6a8ce313a2e65cb4098dc93eddb86459431c"), looks := true }, kinds := [], alts := [], laidByText := true, laidKinds := [.data, .data, .data, .data, .sentinel, .sentinel, .sentinel, .sentinel, .pinned], laidTests := true, laidLooks := .later }
def HeapRingsCardSaid : Prop := Claim7.holds Tryz.pinned (.plain (OpenSpec.ofChange heapRingsSpec)) heapRingsCard

/-- THE TIED CARD OF 'nurserypylaw3.HeapTrees'. -/
def heapTreesCard : Claim7 := { stood := { row := heapTreesRow, standIns := [], harness := (true, "f9b0af4166e6030a973da97ed24e6a8ce313a2e65cb4098dc93eddb86459431c"), looks := true }, kinds := [], alts := [], laidByText := true, laidKinds := [.data, .data, .data, .data, .sentinel, .sentinel, .sentinel, .sentinel, .pinned], laidTests := true, laidLooks := .later }
def HeapTreesCardSaid : Prop := Claim7.holds Tryz.pinned (.plain (OpenSpec.ofChange heapTreesSpec)) heapTreesCard

/-- THE SECOND FORM's CARD OF 'nurserypylaw3.HeapActs'. -/
def heapActsUptoCard : Claim7 := { stood := { row := heapActsUptoRow, standIns := [], harness := (true, "f9b0af4166e6030a973da97ed24e6a8ce313a2e65cb4098dc93eddb86459431c"), looks := true }, kinds := [], alts := [], laidByText := true, laidKinds := [.data, .data, .data, .data, .handle, .sentinel, .sentinel, .sentinel, .sentinel, .sentinel, .sentinel, .sentinel, .pinned], laidTests := true, laidLooks := .later }
def HeapActsUptoCardSaid : Prop := Claim7.holds Tryz.pinned (.plain (OpenSpec.upto heapActsSpec)) heapActsUptoCard

/-- THE SECOND FORM's CARD OF 'nurserypylaw3.HeapAlike'. -/
def heapAlikeUptoCard : Claim7 := { stood := { row := heapAlikeUptoRow, standIns := [], harness := (true, "f9b0af4166e6030a973da97ed24e6a8ce313a2e65cb4098dc93eddb86459431c"), looks := true }, kinds := [], alts := [], laidByText := true, laidKinds := [.data, .data, .data, .data, .handle, .sentinel, .sentinel, .sentinel, .sentinel, .sentinel, .sentinel, .sentinel, .pinned], laidTests := true, laidLooks := .later }
def HeapAlikeUptoCardSaid : Prop := Claim7.holds Tryz.pinned (.plain (OpenSpec.upto heapAlikeSpec)) heapAlikeUptoCard

/-- THE SECOND FORM's CARD OF 'nurserypylaw3.HeapWeak'. -/
def heapWeakUptoCard : Claim7 := { stood := { row := heapWeakUptoRow, standIns := [], harness := (true, "f9b0af4166e6030a973da97ed24e6a8ce313a2e65cb4098dc93eddb86459431c"), looks := true }, kinds := [], alts := [], laidByText := true, laidKinds := [.data, .data, .data, .data, .sentinel, .sentinel, .sentinel, .sentinel, .pinned], laidTests := true, laidLooks := .later }
def HeapWeakUptoCardSaid : Prop := Claim7.holds Tryz.pinned (.plain (OpenSpec.upto heapWeakSpec)) heapWeakUptoCard

/-- THE SECOND FORM's CARD OF 'nurserypylaw3.HeapCounts'. -/
def heapCountsUptoCard : Claim7 := { stood := { row := heapCountsUptoRow, standIns := [], harness := (true, "f9b0af4166e6030a973da97ed24e6a8ce313a2e65cb4098dc93eddb86459431c"), looks := true }, kinds := [], alts := [], laidByText := true, laidKinds := [.data, .data, .data, .data, .sentinel, .sentinel, .sentinel, .sentinel, .pinned], laidTests := true, laidLooks := .later }
def HeapCountsUptoCardSaid : Prop := Claim7.holds Tryz.pinned (.plain (OpenSpec.upto heapCountsSpec)) heapCountsUptoCard

/-- THE SECOND FORM's CARD OF 'nurserypylaw3.HeapRings'. -/
def heapRingsUptoCard : Claim7 := { stood := { row := heapRingsUptoRow, standIns := [], harness := (true, "f9b0af4166e6030a973da97ed24e6a8ce313a2e65cb4098dc93eddb86459431c"), looks := true }, kinds := [], alts := [], laidByText := true, laidKinds := [.data, .data, .data, .data, .sentinel, .sentinel, .sentinel, .sentinel, .pinned], laidTests := true, laidLooks := .later }
def HeapRingsUptoCardSaid : Prop := Claim7.holds Tryz.pinned (.plain (OpenSpec.upto heapRingsSpec)) heapRingsUptoCard

/-- THE SECOND FORM's CARD OF 'nurserypylaw3.HeapTrees'. -/
def heapTreesUptoCard : Claim7 := { stood := { row := heapTreesUptoRow, standIns := [], harness := (true, "f9b0af4166e6030a973da97ed24e6a8ce313a2e65cb4098dc93eddb86459431c"), looks := true }, kinds := [], alts := [], laidByText := true, laidKinds := [.data, .data, .data, .data, .sentinel, .sentinel, .sentinel, .sentinel, .pinned], laidTests := true, laidLooks := .later }
def HeapTreesUptoCardSaid : Prop := Claim7.holds Tryz.pinned (.plain (OpenSpec.upto heapTreesSpec)) heapTreesUptoCard
end Rows
end Go.Proofs.YtlkcbdinlfeoiaaGreatDoor
