/- The document's memory: how many words live (LiveOf), by a contract. -/
import Derived.Test.YtlifnjfmocjfjaaGreatDoorMemGC
namespace Go.Proofs.YtlifnjfmocjfjaaGreatDoor
open Go.RowKit

theorem reach_outs {m : MD} {vs : List Nat} (S : m.Shape vs) (h64 : MD64 m) : Outs vs (m.reach vs) := by
  have go : ∀ (n : Nat) (out : List Nat) (k : Nat), Outs vs out → Outs vs (reachP m.F n out k) := by
    intro n
    induction n with
    | zero => intro out k h; exact h
    | succ n ih =>
      intro out k h
      unfold reachP
      cases hk : out[k]? with
      | none => exact h
      | some f => exact ih _ _ (h.step (S.reachy h64) (h.sub f (List.mem_of_getElem? hk)))
  exact go _ _ _ ((outs_nil vs).comes (S.roots h64))
end Go.Proofs.YtlifnjfmocjfjaaGreatDoor
