/-
  DERIVED. GIVEN WITH THE SEED: THE CARDS: each row of YtebhakmladbjlaaGreatDoorRows.lean that lists a variable, with what it lists TIED to the program's text (the seventh form; the later family's looks); each row that meets fmt, with fmt's text TOLD by the authors' own Lean function (tested against real Go, not proved from fmt's source: count such statements apart). THE CARD IS WHAT COUNTS. Prove the row's statement (the work); the ties are given (YtebhakmladbjlaaGreatDoorTie.lean); close each card by the builder's one call (the guide's Derived/Test/ToyasCard.lean, 'card_holds'). Laid BY PROGRAM, IN A SANDBOX (cutbox-door.mjs). By AI agents, Wed Nov 11 2026. No macro, syntax, notation, axiom, sorry.
-/
import Derived.Test.YtebhakmladbjlaaGreatDoorRows
import GoSem.ClaimSeven
namespace Go.Proofs.YtebhakmladbjlaaGreatDoor
namespace Rows

/-- THE TIED CARD OF 'nurserypylaw3.MemChecks'. -/
def memChecksCard : Claim7 := { stood := { row := memChecksRow, standIns := [], harness := (true, "8ebdca76b1840d9f6c921f0d6098831d88210f7a8dcf0921927c984cacbabe1d"), looks := true }, kinds := [], alts := [], laidByText := true, laidKinds := [.data, .data, .data, .handle, .sentinel, .sentinel, .sentinel, .sentinel, .sentinel, .sentinel, .sentinel], laidTests := true, laidLooks := .later }
def MemChecksCardSaid : Prop := Claim7.holds Tryz.pinned (.plain (OpenSpec.ofChange memChecksSpec)) memChecksCard

/-- THE SECOND FORM's CARD OF 'nurserypylaw3.MemChecks'. -/
def memChecksUptoCard : Claim7 := { stood := { row := memChecksUptoRow, standIns := [], harness := (true, "8ebdca76b1840d9f6c921f0d6098831d88210f7a8dcf0921927c984cacbabe1d"), looks := true }, kinds := [], alts := [], laidByText := true, laidKinds := [.data, .data, .data, .handle, .sentinel, .sentinel, .sentinel, .sentinel, .sentinel, .sentinel, .sentinel], laidTests := true, laidLooks := .later }
def MemChecksUptoCardSaid : Prop := Claim7.holds Tryz.pinned (.plain (OpenSpec.upto memChecksSpec)) memChecksUptoCard
end Rows
end Go.Proofs.YtebhakmladbjlaaGreatDoor
