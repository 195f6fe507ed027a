/- The facts of the row of HeapRings that the program's text alone decides, in one equation. -/
import Derived.Test.YtlkcbdinlfeoiaaGreatDoorHeapRingsPa
import Derived.Test.YtlkcbdinlfeoiaaGreatDoorCards
import Derived.Test.YtlkcbdinlfeoiaaGreatDoorTie
import Derived.Test.YtlkcbdinlfeoiaaGreatDoorKrA
import Derived.Test.YtlkcbdinlfeoiaaGreatDoorKnAT
import Derived.ProofKit
import Derived.OpenShut
import Derived.Deep.DeepHandedRow
namespace Go.Proofs.YtlkcbdinlfeoiaaGreatDoor
open Go.ChangeShapes Go.WideShapes Go.ChangeAt Go.RowKit

theorem heapRings_closed : joinedFacts Tryz.pinned.checked.prog 7 Tryz.f7 (OpenSpec.ofChange Rows.heapRingsSpec).bare Rows.heapRingsRow = true := by kernel_rfl
end Go.Proofs.YtlkcbdinlfeoiaaGreatDoor
