/- memBack of a memory without IDs; MemNew, by contracts. -/
import Derived.Test.YtlifnjfmocjfjaaGreatDoorMemF
namespace Go.Proofs.YtlifnjfmocjfjaaGreatDoor
open Go.RowKit

end Go.Proofs.YtlifnjfmocjfjaaGreatDoor
