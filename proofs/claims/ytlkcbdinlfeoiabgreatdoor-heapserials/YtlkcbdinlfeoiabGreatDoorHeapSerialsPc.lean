/- The facts of the row of HeapSerials that the program's text alone decides, in one equation. -/
import Derived.Test.YtlkcbdinlfeoiabGreatDoorCards
import Derived.Test.YtlkcbdinlfeoiabGreatDoorTie
import Derived.ProofKit
import Derived.OpenShut
import Derived.Deep.DeepHandedRow
import Derived.ChangeSlices
import Derived.WideKeyArgs
import Derived.Deep.Frames
namespace Go.Proofs.YtlkcbdinlfeoiabGreatDoor
open Go.ChangeShapes Go.WideShapes Go.ChangeAt Go.RowKit

theorem heapSerials_closed : joinedFacts Tryz.pinned.checked.prog 3 Tryz.f3 (OpenSpec.ofChange Rows.heapSerialsSpec).bare Rows.heapSerialsRow = true := by kernel_rfl
end Go.Proofs.YtlkcbdinlfeoiabGreatDoor
