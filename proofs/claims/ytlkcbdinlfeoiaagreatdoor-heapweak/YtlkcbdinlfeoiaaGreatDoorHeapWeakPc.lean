/- The facts of the row of HeapWeak that the program's text alone decides, in one equation. -/
import Derived.Test.YtlkcbdinlfeoiaaGreatDoorHeapWeakPa
import Derived.Test.YtlkcbdinlfeoiaaGreatDoorCards
import Derived.Test.YtlkcbdinlfeoiaaGreatDoorTie
import Derived.Test.YtlkcbdinlfeoiaaGreatDoorKrA
import Derived.Test.YtlkcbdinlfeoiaaGreatDoorKnAT
import Derived.ProofKit
import Derived.OpenShut
import Derived.Deep.DeepHandedRow
namespace Go.Proofs.YtlkcbdinlfeoiaaGreatDoor
open Go.ChangeShapes Go.WideShapes Go.ChangeAt Go.RowKit

theorem heapWeak_closed : joinedFacts Tryz.pinned.checked.prog 5 Tryz.f5 (OpenSpec.ofChange Rows.heapWeakSpec).bare Rows.heapWeakRow = true := by kernel_rfl
end Go.Proofs.YtlkcbdinlfeoiaaGreatDoor
