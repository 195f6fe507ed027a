/- near and sameMemory, by contracts. -/
import Derived.Test.YtlifnjfmocjfjaaGreatDoorMemH
namespace Go.Proofs.YtlifnjfmocjfjaaGreatDoor
open Go.RowKit

theorem RepM.drewN {p o : Nat} {m : MD} {w : World} (h : RepM p o m w) (q : Nat) : RepM p o m (w.drewN q) := h.below (below_drewN (Below.refl _ _))

end Go.Proofs.YtlifnjfmocjfjaaGreatDoor
