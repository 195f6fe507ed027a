/-
  DERIVED. GIVEN WITH THE SEED: THE CARDS: each row of YtcpalppfhohbnaaGreatDoorRows.lean that lists a variable, with what it lists TIED to the program's text (the seventh form; the later family's looks); each row that meets fmt, with fmt's text TOLD by the authors' own Lean function (tested against real Go, not proved from fmt's source: count such statements apart). THE CARD IS WHAT COUNTS. Prove the row's statement (the work); the ties are given (YtcpalppfhohbnaaGreatDoorTie.lean); close each card by the builder's one call (the guide's Derived/Test/ToyasCard.lean, 'card_holds'). Laid BY PROGRAM, IN A SANDBOX (cutbox-door.mjs). By AI agents, Wed Nov 11 2026. No macro, syntax, notation, axiom, sorry.
-/
import Derived.Test.YtcpalppfhohbnaaGreatDoorRows
import GoSem.ClaimSeven
namespace Go.Proofs.YtcpalppfhohbnaaGreatDoor
namespace Rows

/-- THE TIED CARD OF 'nurserypylaw1.TreeTokens'. -/
def treeTokensCard : Claim7 := { stood := { row := treeTokensRow, standIns := [], harness := (true, "49987fa24c3b3c25914179f3846f9c8f76dd3ee55324759985a76281e1fdb309"), looks := true }, kinds := [], alts := [], laidByText := true, laidKinds := [.data, .data, .data, .sentinel, .sentinel, .sentinel, .sentinel, .sentinel, .data, .data], laidTests := true, laidLooks := .later }
def TreeTokensCardSaid : Prop := Claim7.holds Tryz.pinned (.plain (OpenSpec.ofChange treeTokensSpec)) treeTokensCard

/-- THE SECOND FORM's CARD OF 'nurserypylaw1.TreeTokens'. -/
def treeTokensUptoCard : Claim7 := { stood := { row := treeTokensUptoRow, standIns := [], harness := (true, "49987fa24c3b3c25914179f3846f9c8f76dd3ee55324759985a76281e1fdb309"), looks := true }, kinds := [], alts := [], laidByText := true, laidKinds := [.data, .data, .data, .sentinel, .sentinel, .sentinel, .sentinel, .sentinel, .data, .data], laidTests := true, laidLooks := .later }
def TreeTokensUptoCardSaid : Prop := Claim7.holds Tryz.pinned (.plain (OpenSpec.upto treeTokensSpec)) treeTokensUptoCard
end Rows
end Go.Proofs.YtcpalppfhohbnaaGreatDoor
