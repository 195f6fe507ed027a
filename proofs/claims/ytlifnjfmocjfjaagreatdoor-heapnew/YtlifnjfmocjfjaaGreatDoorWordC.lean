/- The Word laws: their helpers, and the laws of ints, addresses, headers by walks. -/
import Derived.Test.YtlifnjfmocjfjaaGreatDoorWordB
namespace Go.Proofs.YtlifnjfmocjfjaaGreatDoor
open Go.RowKit

theorem coded_any (a : Nat → Addr) (k : Nat) (hk : k < 7) (w : World) (E : Errs a w) :
    Calls Tryz.prog 6 #[errV a k, .int .i64 (k + 1)] w fun ev w' => ev = .returned (.bool true) ∧ Below w.heap.size w w' := by
  have h := code_sent a k hk w E
  go_enter Tryz.func6, Tryz.ntmps6
  unfold errV
  go_wp2_with fail
  refine h.mono ?_
  rintro ev w1 ⟨rfl, hb⟩
  go_wp2
  go_ret
  exact ⟨rfl, hb⟩
end Go.Proofs.YtlifnjfmocjfjaaGreatDoor
