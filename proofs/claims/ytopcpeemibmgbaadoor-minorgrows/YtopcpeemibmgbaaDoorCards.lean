/-
  DERIVED. GIVEN WITH THE SEED: THE CARDS: each row of YtopcpeemibmgbaaDoorRows.lean that lists a variable, with what it lists TIED to the program's text (the seventh form; the later family's looks); each row that meets fmt, with fmt's text TOLD by the authors' own Lean function (tested against real Go, not proved from fmt's source: count such statements apart). THE CARD IS WHAT COUNTS. Prove the row's statement (the work); the ties are given (YtopcpeemibmgbaaDoorTie.lean); close each card by the builder's one call (the guide's Derived/Test/ToyasCard.lean, 'card_holds'). Laid BY PROGRAM, IN A SANDBOX (cutbox-door.mjs). By AI agents, Wed Nov 11 2026. No macro, syntax, notation, axiom, sorry.
-/
import Derived.Test.YtopcpeemibmgbaaDoorRows
import GoSem.ClaimSeven
namespace Go.Proofs.YtopcpeemibmgbaaDoor
namespace Rows

/-- THE TIED CARD OF 'nurserypylaw3.MinorAges'. -/
def minorAgesCard : Claim7 := { stood := { row := minorAgesRow, standIns := [], harness := (true, "c4400812ca0bb6ab419787186a3e69ced99f9e87ca2d915abfa77d15fb3318c8"), looks := false }, kinds := [], alts := [], laidByText := true, laidKinds := [.sentinel, .sentinel, .sentinel, .sentinel], laidTests := true, laidLooks := .later }
def MinorAgesCardSaid : Prop := Claim7.holds Tryd.pinned (.plain (OpenSpec.ofChange minorAgesSpec)) minorAgesCard

/-- THE TIED CARD OF 'nurserypylaw3.MinorGrows'. -/
def minorGrowsCard : Claim7 := { stood := { row := minorGrowsRow, standIns := [], harness := (true, "c4400812ca0bb6ab419787186a3e69ced99f9e87ca2d915abfa77d15fb3318c8"), looks := false }, kinds := [], alts := [], laidByText := true, laidKinds := [.sentinel, .sentinel, .sentinel, .sentinel], laidTests := true, laidLooks := .later }
def MinorGrowsCardSaid : Prop := Claim7.holds Tryd.pinned (.plain (OpenSpec.ofChange minorGrowsSpec)) minorGrowsCard

/-- THE SECOND FORM's CARD OF 'nurserypylaw3.MinorAges'. -/
def minorAgesUptoCard : Claim7 := { stood := { row := minorAgesUptoRow, standIns := [], harness := (true, "c4400812ca0bb6ab419787186a3e69ced99f9e87ca2d915abfa77d15fb3318c8"), looks := false }, kinds := [], alts := [], laidByText := true, laidKinds := [.sentinel, .sentinel, .sentinel, .sentinel], laidTests := true, laidLooks := .later }
def MinorAgesUptoCardSaid : Prop := Claim7.holds Tryd.pinned (.plain (OpenSpec.upto minorAgesSpec)) minorAgesUptoCard

/-- THE SECOND FORM's CARD OF 'nurserypylaw3.MinorGrows'. -/
def minorGrowsUptoCard : Claim7 := { stood := { row := minorGrowsUptoRow, standIns := [], harness := (true, "c4400812ca0bb6ab419787186a3e69ced99f9e87ca2d915abfa77d15fb3318c8"), looks := false }, kinds := [], alts := [], laidByText := true, laidKinds := [.sentinel, .sentinel, .sentinel, .sentinel], laidTests := true, laidLooks := .later }
def MinorGrowsUptoCardSaid : Prop := Claim7.holds Tryd.pinned (.plain (OpenSpec.upto minorGrowsSpec)) minorGrowsUptoCard
end Rows
end Go.Proofs.YtopcpeemibmgbaaDoor
