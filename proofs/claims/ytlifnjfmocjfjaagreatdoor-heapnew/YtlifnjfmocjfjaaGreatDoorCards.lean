/-
  DERIVED. GIVEN WITH THE SEED: THE CARDS: each row of YtlifnjfmocjfjaaGreatDoorRows.lean that lists a variable, with what it lists TIED to the program's text (the seventh form; the later family's looks); each row that meets fmt, with fmt's text TOLD by the authors' own Lean function (tested against real Go, not proved from fmt's source: count such statements apart). THE CARD IS WHAT COUNTS. Prove the row's statement (the work); the ties are given (YtlifnjfmocjfjaaGreatDoorTie.lean); close each card by the builder's one call (the guide's Derived/Test/ToyasCard.lean, 'card_holds'). Laid BY PROGRAM, IN A SANDBOX (cutbox-door.mjs). By AI agents, Wed Nov 11 2026. No macro, syntax, notation, axiom, sorry.
-/
import Derived.Test.YtlifnjfmocjfjaaGreatDoorRows
import GoSem.ClaimSeven
namespace Go.Proofs.YtlifnjfmocjfjaaGreatDoor
namespace Rows

/-- THE TIED CARD OF 'nurserypylaw3.HeapNew'. -/
def heapNewCard : Claim7 := { stood := { row := heapNewRow, standIns := [], harness := (true, "44c2cf791977e1105875dda6e974b48cbf9b8148658a20aac8c7c37c5e080646"), looks := true }, kinds := [], alts := [], laidByText := true, laidKinds := [.data, .data, .data, .data, .handle, .sentinel, .sentinel, .sentinel, .sentinel, .sentinel, .sentinel, .sentinel, .pinned], laidTests := true, laidLooks := .later }
def HeapNewCardSaid : Prop := Claim7.holds Tryz.pinned (.plain (OpenSpec.ofChange heapNewSpec)) heapNewCard

/-- THE SECOND FORM's CARD OF 'nurserypylaw3.HeapNew'. -/
def heapNewUptoCard : Claim7 := { stood := { row := heapNewUptoRow, standIns := [], harness := (true, "44c2cf791977e1105875dda6e974b48cbf9b8148658a20aac8c7c37c5e080646"), looks := true }, kinds := [], alts := [], laidByText := true, laidKinds := [.data, .data, .data, .data, .handle, .sentinel, .sentinel, .sentinel, .sentinel, .sentinel, .sentinel, .sentinel, .pinned], laidTests := true, laidLooks := .later }
def HeapNewUptoCardSaid : Prop := Claim7.holds Tryz.pinned (.plain (OpenSpec.upto heapNewSpec)) heapNewUptoCard
end Rows
end Go.Proofs.YtlifnjfmocjfjaaGreatDoor
