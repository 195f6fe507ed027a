/- Out of a row's list of variables: four errors of package api. -/
import Derived.Test.YtnenggkgfhgcnaaGreatDoorJnG
import Derived.Test.YtnenggkgfhgcnaaGreatDoorJoF
namespace Go.Proofs.YtnenggkgfhgcnaaGreatDoor
open Go.RowKit

/-- An error's variable, as a row lists it. -/
def fourLaid (nm : String) (tl : List UInt8) : String × DataW Unit := (nm, .iface "*errors.errorString" (.ptr (.agg [.lit (.string ([110, 117, 114, 115, 101, 114, 121, 112, 121, 58, 32] ++ tl))])))
theorem four_one {W : World} (nm : String) (g : Nat) (tl : List UInt8) (hn : Tryz.prog.globalNamed nm = some g) (ht : (Tryz.prog.globals[g]?).map (·.type) = some 34) (h : laidMet Tryz.prog [fourLaid nm tl] W) : ∃ a : Addr, W.cell? ⟨g, 0, none⟩ = some (.iface 216 (.pointer (some a))) := by
  obtain ⟨a, s, h1, _⟩ := laid_sentinel h hn ht Tryz.underlying34 rowSp Tryz.underlying216 Tryz.underlying236 rfl rfl Tryz.underlying9 cellsS cellsStr
  exact ⟨a, by simpa using World.var?_cell hn h1 0⟩
/-- The row's list. -/
def fourL : List (String × DataW Unit) := [fourLaid "nurserypy/api.ErrBound" [98, 111, 117, 110, 100], fourLaid "nurserypy/api.ErrShape" [115, 104, 97, 112, 101], fourLaid "nurserypy/api.ErrPlace" [112, 108, 97, 99, 101], fourLaid "nurserypy/api.ErrFull" [102, 117, 108, 108]]
theorem four_errs {W : World} (h : laidMet Tryz.prog fourL W) : ∃ a : Nat → Addr, MErr a W := by
  obtain ⟨a1, v1⟩ := four_one _ 1 _ (by kernel_rfl) (by kernel_rfl) (laidMet_sub (.cons_cons _ (List.nil_sublist _)) h)
  obtain ⟨a2, v2⟩ := four_one _ 2 _ (by kernel_rfl) (by kernel_rfl) (laidMet_sub (.cons _ (.cons_cons _ (List.nil_sublist _))) h)
  obtain ⟨a4, v4⟩ := four_one _ 5 _ (by kernel_rfl) (by kernel_rfl) (laidMet_sub (.cons _ (.cons _ (.cons_cons _ (List.nil_sublist _)))) h)
  obtain ⟨a5, v5⟩ := four_one _ 0 _ (by kernel_rfl) (by kernel_rfl) (laidMet_sub (.cons _ (.cons _ (.cons _ (List.Sublist.refl _)))) h)
  exact ⟨fun i => if i = 1 then a1 else if i = 2 then a2 else if i = 4 then a4 else a5, v1, v2, v4, v5⟩
theorem four_i64 {n : Int} (h : (Lit.int .i64 n).wf = true) : -9223372036854775808 ≤ n ∧ n < 9223372036854775808 := by
  simp only [Lit.wf, Bool.and_eq_true, decide_eq_true_eq] at h
  have e1 : IntKind.i64.min = -9223372036854775808 := by decide
  have e2 : IntKind.i64.max = 9223372036854775807 := by decide
  omega
end Go.Proofs.YtnenggkgfhgcnaaGreatDoor
