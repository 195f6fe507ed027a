/- The facts of the row of HeapAlike that the program's text alone decides, in one equation. -/
import Derived.Test.YtlkcbdinlfeoiaaGreatDoorHeapAlikePa
import Derived.Test.YtlkcbdinlfeoiaaGreatDoorCards
import Derived.Test.YtlkcbdinlfeoiaaGreatDoorTie
import Derived.Test.YtlkcbdinlfeoiaaGreatDoorKwL
import Derived.Test.YtlkcbdinlfeoiaaGreatDoorKnAT
import Derived.ProofKit
import Derived.OpenShut
import Derived.Deep.DeepHandedRow
import Derived.WideKeyArgs
import Derived.Deep.Frames
import Derived.SizedLaws
namespace Go.Proofs.YtlkcbdinlfeoiaaGreatDoor
open Go.Proofs.Tryz
open Go.ChangeShapes Go.WideShapes Go.ChangeAt Go.RowKit Go.Deep

theorem heapAlike_closed:joinedFacts Tryz.pinned.checked.prog 4 f4 (OpenSpec.ofChange Rows.heapAlikeSpec).bare Rows.heapAlikeRow=true:=by kernel_rfl
end Go.Proofs.YtlkcbdinlfeoiaaGreatDoor
