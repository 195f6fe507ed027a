/- The document's memory: its objects, by contracts. -/
import Derived.Test.YtlifnjfmocjfjaaGreatDoorMemRA
import Derived.Test.YtlifnjfmocjfjaaGreatDoorMemJ
namespace Go.Proofs.YtlifnjfmocjfjaaGreatDoor
open Go.RowKit

/-- What the document asks of a header. -/
def G0 (F : Nat → Int) (f : Nat) : Bool := decide (F f / 16384 % 2 = 0)
theorem objsV_snoc (F : Nat → Int) (vs : List Nat) (f : Nat) : objsV F (vs ++ [f]) = objsV F vs ++ objV F f := by simp [objsV]
theorem objV_one (F : Nat → Int) (f : Nat) : ∀ u ∈ objV F f, u.oneCell' = true := by
  intro u hu
  simp [objV] at hu
  rcases hu with rfl | rfl | rfl | rfl <;> rfl
end Go.Proofs.YtlifnjfmocjfjaaGreatDoor
