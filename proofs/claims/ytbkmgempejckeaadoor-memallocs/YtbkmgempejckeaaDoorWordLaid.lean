/- What the rows of the Word laws lay: the seven errors of package api, apart from each other, and the handle of the type error. -/
import Derived.Test.YtbkmgempejckeaaDoorErrLaid
import Derived.Test.YtbkmgempejckeaaDoorWordA
namespace Go.Proofs.YtbkmgempejckeaaDoor
open Go.RowKit

theorem word_errs {W : World} (h' : laidMet Tryd.prog [sentLaid 0, sentLaid 1, sentLaid 2, sentLaid 3, sentLaid 4, sentLaid 5, sentLaid 6] W ∧ handlesMet Tryd.prog [("errors.errorType", Rows.laid_errors_errorType)] W) : ∃ a : Nat → Addr, Errs a W := by
  suffices h : ∃ a : Nat → Addr, Errs a W ∧ ∀ i, i < 7 → W.cell? (a i) = some (.string (sentText i)) by
    obtain ⟨a, E, _⟩ := h
    exact ⟨a, E⟩
  refine errs_of h'.1 h'.2 (fun i j hi hj hne => ?_)
  have key : ∀ i j : Nat, i < j → j < 7 → [sentLaid i, sentLaid j].Sublist [sentLaid 0, sentLaid 1, sentLaid 2, sentLaid 3, sentLaid 4, sentLaid 5, sentLaid 6] := fun i j h1 h2 => by
    have e : ([i, j].Sublist [0, 1, 2, 3, 4, 5, 6]) := by
      have hj : j ∈ [1, 2, 3, 4, 5, 6] := by simp; omega
      have hi : i ∈ [0, 1, 2, 3, 4, 5] := by simp; omega
      simp at hi hj
      rcases hi with rfl | rfl | rfl | rfl | rfl | rfl <;> rcases hj with rfl | rfl | rfl | rfl | rfl | rfl <;> first | omega | decide
    exact e.map sentLaid
  rcases Nat.lt_or_gt_of_ne hne with h | h
  · exact Or.inl (key i j h hj)
  · exact Or.inr (key j i h hi)

theorem word_two {W : World} (h : laidMet Tryd.prog [sentLaid 1, sentLaid 2] W) : ∃ a : Nat → Addr, WErr a W := by
  obtain ⟨a1, v1, _⟩ := sent_one 1 (by decide) (laidMet_sub (List.Sublist.cons_cons _ (List.nil_sublist _)) h)
  obtain ⟨a2, v2, _⟩ := sent_one 2 (by decide) (laidMet_sub (List.Sublist.cons _ (List.Sublist.refl _)) h)
  exact ⟨fun i => if i = 1 then a1 else a2, sent_cell 1 (by decide) a1 v1, sent_cell 2 (by decide) a2 v2⟩

theorem bounds_i64 {n : Int} (h : (Lit.int .i64 n).wf = true) : -9223372036854775808 ≤ n ∧ n < 9223372036854775808 := by
  simp only [Lit.wf, Bool.and_eq_true, decide_eq_true_eq] at h
  have e1 : IntKind.i64.min = -9223372036854775808 := by decide
  have e2 : IntKind.i64.max = 9223372036854775807 := by decide
  omega
theorem bounds_u64 {n : Int} (h : (Lit.int .u64 n).wf = true) : 0 ≤ n ∧ n < 18446744073709551616 := by
  simp only [Lit.wf, Bool.and_eq_true, decide_eq_true_eq] at h
  have e1 : IntKind.u64.min = 0 := by decide
  have e2 : IntKind.u64.max = 18446744073709551615 := by decide
  omega
end Go.Proofs.YtbkmgempejckeaaDoor
