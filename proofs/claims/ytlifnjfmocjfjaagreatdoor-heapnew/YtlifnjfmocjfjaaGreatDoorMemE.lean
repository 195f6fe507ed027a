/- The document's memory: Shaped, CheckOf of a memory with no objects, by contracts. -/
import Derived.Test.YtlifnjfmocjfjaaGreatDoorMemD
namespace Go.Proofs.YtlifnjfmocjfjaaGreatDoor
open Go.RowKit

theorem drew2 (w : World) (a b : Nat) : (w.drewN a).drewN b = w.drewN (a + b) := by simp [World.drewN, Nat.add_assoc]
theorem drew_ex2 {w : World} {a b : Nat} : ∃ q, (w.drewN a).drewN b = w.drewN q := ⟨_, by rw [drew2]⟩
theorem drew_ex3 {w : World} {a b c : Nat} : ∃ q, ((w.drewN a).drewN b).drewN c = w.drewN q := ⟨_, by rw [drew2, drew2]⟩
theorem drew_ex4 {w : World} {a b c d : Nat} : ∃ q, (((w.drewN a).drewN b).drewN c).drewN d = w.drewN q := ⟨_, by rw [drew2, drew2, drew2]⟩
theorem MemAt.memO {p : Nat} {half old card : Int} {W : Value} {used top oldTop : Int} {roots weak ids cards : Value} {w : World} (M : MemAt p half old card W used top oldTop roots weak ids cards w) : MemO p 0 half old card W used top oldTop roots weak ids cards w :=
  ⟨M.c0, M.c1, M.c2, M.c3, M.c4, M.c5, M.c6, M.c7, M.c8, M.c9, M.c10⟩
theorem cards_two {old card : Int} (h2 : 1 ≤ old) (h4 : 1 ≤ card) : (old / card * card < old → (old + card - 1) / card = old / card + 1) ∧ (¬ old / card * card < old → (old + card - 1) / card = old / card) ∧ 0 ≤ old / card ∧ old / card ≤ old ∧ 0 ≤ old / card * card ∧ old / card * card ≤ old := by
  have a1 : old / card * card ≤ old := Int.ediv_mul_le old (by omega)
  have a2 : old < (old / card + 1) * card := Int.lt_ediv_add_one_mul_self old (by omega)
  have a3 : 0 ≤ old / card := Int.ediv_nonneg (by omega) (by omega)
  have a4 : old / card ≤ old := Int.ediv_le_self _ (by omega)
  have a5 : 0 ≤ old / card * card := Int.mul_nonneg a3 (by omega)
  rw [Int.add_mul, Int.one_mul] at a2
  generalize old / card = q at *
  refine ⟨fun h => ?_, fun h => ?_, a3, a4, a5, a1⟩
  · have l1 : q + 1 ≤ (old + card - 1) / card := (Int.le_ediv_iff_mul_le (by omega)).2 (by rw [Int.add_mul, Int.one_mul]; omega)
    have l2 : (old + card - 1) / card < q + 2 := (Int.ediv_lt_iff_lt_mul (by omega)).2 (by rw [Int.add_mul]; omega)
    omega
  · have l1 : q ≤ (old + card - 1) / card := (Int.le_ediv_iff_mul_le (by omega)).2 (by omega)
    have l2 : (old + card - 1) / card < q + 1 := (Int.ediv_lt_iff_lt_mul (by omega)).2 (by rw [Int.add_mul, Int.one_mul]; omega)
    omega

end Go.Proofs.YtlifnjfmocjfjaaGreatDoor
