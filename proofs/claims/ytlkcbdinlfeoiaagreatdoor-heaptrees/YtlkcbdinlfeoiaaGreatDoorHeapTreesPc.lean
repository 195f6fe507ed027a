/- The facts of the row of HeapTrees that the program's text alone decides, in one equation. -/
import Derived.Test.YtlkcbdinlfeoiaaGreatDoorHeapTreesPa
import Derived.Test.YtlkcbdinlfeoiaaGreatDoorCards
import Derived.Test.YtlkcbdinlfeoiaaGreatDoorTie
import Derived.Test.YtlkcbdinlfeoiaaGreatDoorKuA
import Derived.Test.YtlkcbdinlfeoiaaGreatDoorKnAT
import Derived.ProofKit
import Derived.OpenShut
import Derived.Deep.DeepHandedRow
namespace Go.Proofs.YtlkcbdinlfeoiaaGreatDoor
open Go.ChangeShapes Go.WideShapes Go.ChangeAt Go.RowKit

theorem heapTrees_closed : joinedFacts Tryz.pinned.checked.prog 8 Tryz.f8 (OpenSpec.ofChange Rows.heapTreesSpec).bare Rows.heapTreesRow = true := by kernel_rfl
end Go.Proofs.YtlkcbdinlfeoiaaGreatDoor
