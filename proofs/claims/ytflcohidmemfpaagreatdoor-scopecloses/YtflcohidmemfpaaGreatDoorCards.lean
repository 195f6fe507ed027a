/-
  DERIVED. GIVEN WITH THE SEED: THE CARDS: each row of YtflcohidmemfpaaGreatDoorRows.lean that lists a variable, with what it lists TIED to the program's text (the seventh form; the later family's looks); each row that meets fmt, with fmt's text TOLD by the authors' own Lean function (tested against real Go, not proved from fmt's source: count such statements apart). THE CARD IS WHAT COUNTS. Prove the row's statement (the work); the ties are given (YtflcohidmemfpaaGreatDoorTie.lean); close each card by the builder's one call (the guide's Derived/Test/ToyasCard.lean, 'card_holds'). Laid BY PROGRAM, IN A SANDBOX (cutbox-door.mjs). By AI agents, Wed Nov 11 2026. No macro, syntax, notation, axiom, sorry.
-/
import Derived.Test.YtflcohidmemfpaaGreatDoorRows
import GoSem.ClaimSeven
namespace Go.Proofs.YtflcohidmemfpaaGreatDoor
namespace Rows

/-- THE TIED CARD OF 'nurserypylaw1.ScopeCloses'. -/
def scopeClosesCard : Claim7 := { stood := { row := scopeClosesRow, standIns := [], harness := (true, "1d0d458f491bf503ed3d5bb5bfcc4c9e5dec739b58a14384e78fe344d70d4525"), looks := true }, kinds := [], alts := [], laidByText := true, laidKinds := [.data, .data, .data, .sentinel, .sentinel, .sentinel, .sentinel, .sentinel, .sentinel, .data, .data], laidTests := true, laidLooks := .later }
def ScopeClosesCardSaid : Prop := Claim7.holds Tryz.pinned (.plain (OpenSpec.ofChange scopeClosesSpec)) scopeClosesCard

/-- THE SECOND FORM's CARD OF 'nurserypylaw1.ScopeCloses'. -/
def scopeClosesUptoCard : Claim7 := { stood := { row := scopeClosesUptoRow, standIns := [], harness := (true, "1d0d458f491bf503ed3d5bb5bfcc4c9e5dec739b58a14384e78fe344d70d4525"), looks := true }, kinds := [], alts := [], laidByText := true, laidKinds := [.data, .data, .data, .sentinel, .sentinel, .sentinel, .sentinel, .sentinel, .sentinel, .data, .data], laidTests := true, laidLooks := .later }
def ScopeClosesUptoCardSaid : Prop := Claim7.holds Tryz.pinned (.plain (OpenSpec.upto scopeClosesSpec)) scopeClosesUptoCard
end Rows
end Go.Proofs.YtflcohidmemfpaaGreatDoor
