/- The facts of the row of HeapCounts that the program's text alone decides, in one equation. -/
import Derived.Test.YtlkcbdinlfeoiaaGreatDoorHeapCountsPa
import Derived.Test.YtlkcbdinlfeoiaaGreatDoorCards
import Derived.Test.YtlkcbdinlfeoiaaGreatDoorTie
import Derived.Test.YtlkcbdinlfeoiaaGreatDoorKwA
import Derived.Test.YtlkcbdinlfeoiaaGreatDoorKnAT
import Derived.ProofKit
import Derived.OpenShut
import Derived.Deep.DeepHandedRow
import Derived.WideKeyArgs
import Derived.Deep.Frames
import Derived.SizedLaws
namespace Go.Proofs.YtlkcbdinlfeoiaaGreatDoor
open Go.Proofs.Tryz
open Go.ChangeShapes Go.WideShapes Go.ChangeAt Go.RowKit Go.Deep

theorem heapCounts_closed : joinedFacts Tryz.pinned.checked.prog 6 f6 (OpenSpec.ofChange Rows.heapCountsSpec).bare Rows.heapCountsRow = true := by kernel_rfl
end Go.Proofs.YtlkcbdinlfeoiaaGreatDoor
