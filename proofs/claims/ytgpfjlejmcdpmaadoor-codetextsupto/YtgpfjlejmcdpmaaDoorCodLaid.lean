/- What the rows of the Code laws lay: three tables of numbers, the seven errors of package api, the handle of the type error. -/
import Derived.Test.YtgpfjlejmcdpmaaDoorErrLaid
import Derived.Test.YtgpfjlejmcdpmaaDoorCodP
import Derived.Stop.LaidErr
namespace Go.Proofs.YtgpfjlejmcdpmaaDoor
open Go.RowKit

theorem word_errs {W : World} (h' : laidMet Tryd.prog [sentLaid 0, sentLaid 1, sentLaid 2, sentLaid 3, sentLaid 4, sentLaid 5, sentLaid 6] W ∧ handlesMet Tryd.prog [("errors.errorType", Rows.laid_errors_errorType)] W) : ∃ a : Nat → Addr, Errs a W := by
  suffices h : ∃ a : Nat → Addr, Errs a W ∧ ∀ i, i < 7 → W.cell? (a i) = some (.string (sentText i)) by
    obtain ⟨a, E, _⟩ := h
    exact ⟨a, E⟩
  refine errs_of h'.1 h'.2 (fun i j hi hj hne => ?_)
  have key : ∀ i j : Nat, i < j → j < 7 → [sentLaid i, sentLaid j].Sublist [sentLaid 0, sentLaid 1, sentLaid 2, sentLaid 3, sentLaid 4, sentLaid 5, sentLaid 6] := fun i j h1 h2 => by
    have e : ([i, j].Sublist [0, 1, 2, 3, 4, 5, 6]) := by
      have hj : j ∈ [1, 2, 3, 4, 5, 6] := by simp; omega
      have hi : i ∈ [0, 1, 2, 3, 4, 5] := by simp; omega
      simp at hi hj
      rcases hi with rfl | rfl | rfl | rfl | rfl | rfl <;> rcases hj with rfl | rfl | rfl | rfl | rfl | rfl <;> first | omega | decide
    exact e.map sentLaid
  rcases Nat.lt_or_gt_of_ne hne with h | h
  · exact Or.inl (key i j h hj)
  · exact Or.inr (key j i h hi)

theorem code_tab {W : World} {x y : String × DataW Unit} {r : List (String × DataW Unit)} (h : laidMet Tryd.prog (x :: y :: ("internal/strconv.uint64pow10", Lib.tabData .u64 Lib.pow10Tab) :: r) W) : Tabbed W :=
  Lib.tabIs_of_head (g := 8) (t := 120) (e := 99) (n := 20) (by kernel_rfl) (by kernel_rfl) Tryd.underlying120 Tryd.underlying99 (by kernel_rfl) (by kernel_rfl) (laidMet.tail (laidMet.tail h))
end Go.Proofs.YtgpfjlejmcdpmaaDoor
