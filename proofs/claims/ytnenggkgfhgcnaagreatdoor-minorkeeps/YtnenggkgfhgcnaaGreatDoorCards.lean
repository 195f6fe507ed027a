/-
  DERIVED. GIVEN WITH THE SEED: THE CARDS: each row of YtnenggkgfhgcnaaGreatDoorRows.lean that lists a variable, with what it lists TIED to the program's text (the seventh form; the later family's looks); each row that meets fmt, with fmt's text TOLD by the authors' own Lean function (tested against real Go, not proved from fmt's source: count such statements apart). THE CARD IS WHAT COUNTS. Prove the row's statement (the work); the ties are given (YtnenggkgfhgcnaaGreatDoorTie.lean); close each card by the builder's one call (the guide's Derived/Test/ToyasCard.lean, 'card_holds'). Laid BY PROGRAM, IN A SANDBOX (cutbox-door.mjs). By AI agents, Wed Nov 11 2026. No macro, syntax, notation, axiom, sorry.
-/
import Derived.Test.YtnenggkgfhgcnaaGreatDoorRows
import GoSem.ClaimSeven
namespace Go.Proofs.YtnenggkgfhgcnaaGreatDoor
namespace Rows

/-- THE TIED CARD OF 'nurserypylaw3.MajorKeeps'. -/
def majorKeepsCard : Claim7 := { stood := { row := majorKeepsRow, standIns := [], harness := (true, "acc3c210323de5751c20839cf299cb997431f438cfb8e1d1f08962140c4f1a92"), looks := true }, kinds := [], alts := [], laidByText := true, laidKinds := [.handle, .sentinel, .sentinel, .sentinel, .sentinel, .sentinel, .sentinel, .sentinel], laidTests := true, laidLooks := .later }
def MajorKeepsCardSaid : Prop := Claim7.holds Tryz.pinned (.plain (OpenSpec.ofChange majorKeepsSpec)) majorKeepsCard

/-- THE TIED CARD OF 'nurserypylaw3.MajorOrder'. -/
def majorOrderCard : Claim7 := { stood := { row := majorOrderRow, standIns := [], harness := (true, "acc3c210323de5751c20839cf299cb997431f438cfb8e1d1f08962140c4f1a92"), looks := true }, kinds := [], alts := [], laidByText := true, laidKinds := [.sentinel, .sentinel, .sentinel, .sentinel], laidTests := true, laidLooks := .later }
def MajorOrderCardSaid : Prop := Claim7.holds Tryz.pinned (.plain (OpenSpec.ofChange majorOrderSpec)) majorOrderCard

/-- THE TIED CARD OF 'nurserypylaw3.MinorKeeps'. -/
def minorKeepsCard : Claim7 := { stood := { row := minorKeepsRow, standIns := [], harness := (true, "acc3c210323de5751c20839cf299cb997431f438cfb8e1d1f08962140c4f1a92"), looks := true }, kinds := [], alts := [], laidByText := true, laidKinds := [.handle, .sentinel, .sentinel, .sentinel, .sentinel, .sentinel, .sentinel, .sentinel], laidTests := true, laidLooks := .later }
def MinorKeepsCardSaid : Prop := Claim7.holds Tryz.pinned (.plain (OpenSpec.ofChange minorKeepsSpec)) minorKeepsCard

/-- THE TIED CARD OF 'nurserypylaw3.MajorTwice'. -/
def majorTwiceCard : Claim7 := { stood := { row := majorTwiceRow, standIns := [], harness := (true, "acc3c210323de5751c20839cf299cb997431f438cfb8e1d1f08962140c4f1a92"), looks := true }, kinds := [], alts := [], laidByText := true, laidKinds := [.sentinel, .sentinel, .sentinel, .sentinel], laidTests := true, laidLooks := .later }
def MajorTwiceCardSaid : Prop := Claim7.holds Tryz.pinned (.plain (OpenSpec.ofChange majorTwiceSpec)) majorTwiceCard

/-- THE SECOND FORM's CARD OF 'nurserypylaw3.MajorKeeps'. -/
def majorKeepsUptoCard : Claim7 := { stood := { row := majorKeepsUptoRow, standIns := [], harness := (true, "acc3c210323de5751c20839cf299cb997431f438cfb8e1d1f08962140c4f1a92"), looks := true }, kinds := [], alts := [], laidByText := true, laidKinds := [.handle, .sentinel, .sentinel, .sentinel, .sentinel, .sentinel, .sentinel, .sentinel], laidTests := true, laidLooks := .later }
def MajorKeepsUptoCardSaid : Prop := Claim7.holds Tryz.pinned (.plain (OpenSpec.upto majorKeepsSpec)) majorKeepsUptoCard

/-- THE SECOND FORM's CARD OF 'nurserypylaw3.MajorOrder'. -/
def majorOrderUptoCard : Claim7 := { stood := { row := majorOrderUptoRow, standIns := [], harness := (true, "acc3c210323de5751c20839cf299cb997431f438cfb8e1d1f08962140c4f1a92"), looks := true }, kinds := [], alts := [], laidByText := true, laidKinds := [.sentinel, .sentinel, .sentinel, .sentinel], laidTests := true, laidLooks := .later }
def MajorOrderUptoCardSaid : Prop := Claim7.holds Tryz.pinned (.plain (OpenSpec.upto majorOrderSpec)) majorOrderUptoCard

/-- THE SECOND FORM's CARD OF 'nurserypylaw3.MinorKeeps'. -/
def minorKeepsUptoCard : Claim7 := { stood := { row := minorKeepsUptoRow, standIns := [], harness := (true, "acc3c210323de5751c20839cf299cb997431f438cfb8e1d1f08962140c4f1a92"), looks := true }, kinds := [], alts := [], laidByText := true, laidKinds := [.handle, .sentinel, .sentinel, .sentinel, .sentinel, .sentinel, .sentinel, .sentinel], laidTests := true, laidLooks := .later }
def MinorKeepsUptoCardSaid : Prop := Claim7.holds Tryz.pinned (.plain (OpenSpec.upto minorKeepsSpec)) minorKeepsUptoCard

/-- THE SECOND FORM's CARD OF 'nurserypylaw3.MajorTwice'. -/
def majorTwiceUptoCard : Claim7 := { stood := { row := majorTwiceUptoRow, standIns := [], harness := (true, "acc3c210323de5751c20839cf299cb997431f438cfb8e1d1f08962140c4f1a92"), looks := true }, kinds := [], alts := [], laidByText := true, laidKinds := [.sentinel, .sentinel, .sentinel, .sentinel], laidTests := true, laidLooks := .later }
def MajorTwiceUptoCardSaid : Prop := Claim7.holds Tryz.pinned (.plain (OpenSpec.upto majorTwiceSpec)) majorTwiceUptoCard
end Rows
end Go.Proofs.YtnenggkgfhgcnaaGreatDoor
