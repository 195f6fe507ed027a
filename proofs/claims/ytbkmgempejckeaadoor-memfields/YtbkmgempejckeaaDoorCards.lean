/-
  DERIVED. GIVEN WITH THE SEED: THE CARDS: each row of YtbkmgempejckeaaDoorRows.lean that lists a variable, with what it lists TIED to the program's text (the seventh form; the later family's looks); each row that meets fmt, with fmt's text TOLD by the authors' own Lean function (tested against real Go, not proved from fmt's source: count such statements apart). THE CARD IS WHAT COUNTS. Prove the row's statement (the work); the ties are given (YtbkmgempejckeaaDoorTie.lean); close each card by the builder's one call (the guide's Derived/Test/ToyasCard.lean, 'card_holds'). Laid BY PROGRAM, IN A SANDBOX (cutbox-door.mjs). By AI agents, Wed Nov 11 2026. No macro, syntax, notation, axiom, sorry.
-/
import Derived.Test.YtbkmgempejckeaaDoorRows
import GoSem.ClaimSeven
namespace Go.Proofs.YtbkmgempejckeaaDoor
namespace Rows

/-- THE TIED CARD OF 'nurserypylaw3.MemNew'. -/
def memNewCard : Claim7 := { stood := { row := memNewRow, standIns := [], harness := (true, "20dcfd854e493b964f68d8487405ef2c973d93aa91d4a0ff6290f0a0f3c9c396"), looks := true }, kinds := [], alts := [], laidByText := true, laidKinds := [.handle, .sentinel, .sentinel, .sentinel, .sentinel, .sentinel, .sentinel, .sentinel], laidTests := true, laidLooks := .later }
def MemNewCardSaid : Prop := Claim7.holds Tryd.pinned (.plain (OpenSpec.ofChange memNewSpec)) memNewCard

/-- THE TIED CARD OF 'nurserypylaw3.MemAllocs'. -/
def memAllocsCard : Claim7 := { stood := { row := memAllocsRow, standIns := [], harness := (true, "20dcfd854e493b964f68d8487405ef2c973d93aa91d4a0ff6290f0a0f3c9c396"), looks := true }, kinds := [], alts := [], laidByText := true, laidKinds := [.handle, .sentinel, .sentinel, .sentinel, .sentinel, .sentinel, .sentinel, .sentinel], laidTests := true, laidLooks := .later }
def MemAllocsCardSaid : Prop := Claim7.holds Tryd.pinned (.plain (OpenSpec.ofChange memAllocsSpec)) memAllocsCard

/-- THE TIED CARD OF 'nurserypylaw3.MemFields'. -/
def memFieldsCard : Claim7 := { stood := { row := memFieldsRow, standIns := [], harness := (true, "20dcfd854e493b964f68d8487405ef2c973d93aa91d4a0ff6290f0a0f3c9c396"), looks := true }, kinds := [], alts := [], laidByText := true, laidKinds := [.handle, .sentinel, .sentinel, .sentinel, .sentinel, .sentinel, .sentinel, .sentinel], laidTests := true, laidLooks := .later }
def MemFieldsCardSaid : Prop := Claim7.holds Tryd.pinned (.plain (OpenSpec.ofChange memFieldsSpec)) memFieldsCard

/-- THE TIED CARD OF 'nurserypylaw3.MemCopies'. -/
def memCopiesCard : Claim7 := { stood := { row := memCopiesRow, standIns := [], harness := (true, "20dcfd854e493b964f68d8487405ef2c973d93aa91d4a0ff6290f0a0f3c9c396"), looks := true }, kinds := [], alts := [], laidByText := true, laidKinds := [.sentinel, .sentinel, .sentinel, .sentinel], laidTests := true, laidLooks := .later }
def MemCopiesCardSaid : Prop := Claim7.holds Tryd.pinned (.plain (OpenSpec.ofChange memCopiesSpec)) memCopiesCard

/-- THE TIED CARD OF 'nurserypylaw3.MemWalks'. -/
def memWalksCard : Claim7 := { stood := { row := memWalksRow, standIns := [], harness := (true, "20dcfd854e493b964f68d8487405ef2c973d93aa91d4a0ff6290f0a0f3c9c396"), looks := true }, kinds := [], alts := [], laidByText := true, laidKinds := [.sentinel, .sentinel, .sentinel], laidTests := true, laidLooks := .later }
def MemWalksCardSaid : Prop := Claim7.holds Tryd.pinned (.plain (OpenSpec.ofChange memWalksSpec)) memWalksCard

/-- THE SECOND FORM's CARD OF 'nurserypylaw3.MemNew'. -/
def memNewUptoCard : Claim7 := { stood := { row := memNewUptoRow, standIns := [], harness := (true, "20dcfd854e493b964f68d8487405ef2c973d93aa91d4a0ff6290f0a0f3c9c396"), looks := true }, kinds := [], alts := [], laidByText := true, laidKinds := [.handle, .sentinel, .sentinel, .sentinel, .sentinel, .sentinel, .sentinel, .sentinel], laidTests := true, laidLooks := .later }
def MemNewUptoCardSaid : Prop := Claim7.holds Tryd.pinned (.plain (OpenSpec.upto memNewSpec)) memNewUptoCard

/-- THE SECOND FORM's CARD OF 'nurserypylaw3.MemAllocs'. -/
def memAllocsUptoCard : Claim7 := { stood := { row := memAllocsUptoRow, standIns := [], harness := (true, "20dcfd854e493b964f68d8487405ef2c973d93aa91d4a0ff6290f0a0f3c9c396"), looks := true }, kinds := [], alts := [], laidByText := true, laidKinds := [.handle, .sentinel, .sentinel, .sentinel, .sentinel, .sentinel, .sentinel, .sentinel], laidTests := true, laidLooks := .later }
def MemAllocsUptoCardSaid : Prop := Claim7.holds Tryd.pinned (.plain (OpenSpec.upto memAllocsSpec)) memAllocsUptoCard

/-- THE SECOND FORM's CARD OF 'nurserypylaw3.MemFields'. -/
def memFieldsUptoCard : Claim7 := { stood := { row := memFieldsUptoRow, standIns := [], harness := (true, "20dcfd854e493b964f68d8487405ef2c973d93aa91d4a0ff6290f0a0f3c9c396"), looks := true }, kinds := [], alts := [], laidByText := true, laidKinds := [.handle, .sentinel, .sentinel, .sentinel, .sentinel, .sentinel, .sentinel, .sentinel], laidTests := true, laidLooks := .later }
def MemFieldsUptoCardSaid : Prop := Claim7.holds Tryd.pinned (.plain (OpenSpec.upto memFieldsSpec)) memFieldsUptoCard

/-- THE SECOND FORM's CARD OF 'nurserypylaw3.MemCopies'. -/
def memCopiesUptoCard : Claim7 := { stood := { row := memCopiesUptoRow, standIns := [], harness := (true, "20dcfd854e493b964f68d8487405ef2c973d93aa91d4a0ff6290f0a0f3c9c396"), looks := true }, kinds := [], alts := [], laidByText := true, laidKinds := [.sentinel, .sentinel, .sentinel, .sentinel], laidTests := true, laidLooks := .later }
def MemCopiesUptoCardSaid : Prop := Claim7.holds Tryd.pinned (.plain (OpenSpec.upto memCopiesSpec)) memCopiesUptoCard

/-- THE SECOND FORM's CARD OF 'nurserypylaw3.MemWalks'. -/
def memWalksUptoCard : Claim7 := { stood := { row := memWalksUptoRow, standIns := [], harness := (true, "20dcfd854e493b964f68d8487405ef2c973d93aa91d4a0ff6290f0a0f3c9c396"), looks := true }, kinds := [], alts := [], laidByText := true, laidKinds := [.sentinel, .sentinel, .sentinel], laidTests := true, laidLooks := .later }
def MemWalksUptoCardSaid : Prop := Claim7.holds Tryd.pinned (.plain (OpenSpec.upto memWalksSpec)) memWalksUptoCard
end Rows
end Go.Proofs.YtbkmgempejckeaaDoor
