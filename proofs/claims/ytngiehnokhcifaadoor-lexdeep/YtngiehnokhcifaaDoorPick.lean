/- The laws' small helpers: pick. -/
import Derived.Test.YtngiehnokhcifaaDoorFineP
namespace Go.Proofs.YtngiehnokhcifaaDoor
open Go.RowKit

/-- A number below 5, as pick has it. -/
def pk (k : Int) : Nat := if Int.tmod k 5 < 0 then (Int.tmod k 5 + 5).toNat else (Int.tmod k 5).toNat
theorem tmod_bd (k : Int) : -5 < Int.tmod k 5 ∧ Int.tmod k 5 < 5 := by
  have a := Int.tmod_lt_of_pos k (b := 5) (by decide)
  have b := Int.tmod_lt_of_pos (-k) (b := 5) (by decide)
  rw [Int.neg_tmod] at b
  omega
theorem pk_lt (k : Int) : pk k < 5 := by
  have := tmod_bd k
  unfold pk
  split <;> omega

set_option maxHeartbeats 400000 in
theorem pick_any (k : Int) (w : World) :
    Calls Tryd.prog 15 #[.int .i64 k, .int .i64 5] w fun ev w' => ev = .returned (.int .i64 (pk k : Int)) ∧ w' = w := by
  have h1 := tmod_bd k
  by_cases h : Int.tmod k 5 < 0
  · have e : (pk k : Int) = Int.tmod k 5 + 5 := by unfold pk; rw [if_pos h, Int.toNat_of_nonneg (by omega)]
    have HE : Hid ((pk k : Int) = Int.tmod k 5 + 5) := e
    clear e
    go_enter Tryd.func15, Tryd.ntmps15
    go_wp2
    go_ret
    exact ⟨ret_int HE.out.symm, rfl⟩
  · have e : (pk k : Int) = Int.tmod k 5 := by unfold pk; rw [if_neg h, Int.toNat_of_nonneg (by omega)]
    have HE : Hid ((pk k : Int) = Int.tmod k 5) := e
    clear e
    go_enter Tryd.func15, Tryd.ntmps15
    go_wp2
    go_ret
    exact ⟨ret_int HE.out.symm, rfl⟩
end Go.Proofs.YtngiehnokhcifaaDoor
