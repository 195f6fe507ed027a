/- The facts of the row of HeapInts that the program's text alone decides, in one equation. -/
import Derived.Test.YtlkcbdinlfeoiabGreatDoorHeapIntsPa
import Derived.Test.YtlkcbdinlfeoiabGreatDoorCards
import Derived.Test.YtlkcbdinlfeoiabGreatDoorTie
import Derived.Test.YtlkcbdinlfeoiabGreatDoorKuA
import Derived.Test.YtlkcbdinlfeoiabGreatDoorKnAT
import Derived.ProofKit
import Derived.OpenShut
import Derived.Deep.DeepHandedRow
namespace Go.Proofs.YtlkcbdinlfeoiabGreatDoor
open Go.ChangeShapes Go.WideShapes Go.ChangeAt Go.RowKit

theorem heapInts_closed : joinedFacts Tryz.pinned.checked.prog 4 Tryz.f4 (OpenSpec.ofChange Rows.heapIntsSpec).bare Rows.heapIntsRow = true := by kernel_rfl
end Go.Proofs.YtlkcbdinlfeoiabGreatDoor
