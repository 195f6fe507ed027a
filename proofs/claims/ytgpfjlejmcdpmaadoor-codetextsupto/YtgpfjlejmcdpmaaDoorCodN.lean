/- The law CodeWide by a walk, of any four ints, where halt answers true. -/
import Derived.Test.YtgpfjlejmcdpmaaDoorCodM
namespace Go.Proofs.YtgpfjlejmcdpmaaDoor
open Go.RowKit

set_option maxHeartbeats 4000000 in
set_option maxRecDepth 100000 in
theorem codeWide_any (a : Nat → Addr) (o f i n : Int) (w : World) (E : Errs a w) (kh : Calls Tryd.prog 5 #[] w fun ev w' => ev = .returned (.bool true) ∧ Below w.heap.size w w') :
    Calls Tryd.prog 4 #[.int .i64 o, .int .i64 f, .int .i64 i, .int .i64 n] w fun ev w' => ev = .returned (.bool true) ∧ Below w.heap.size w w' := by
  by_cases h : (1 ≤ o ∧ o ≤ 25000 ∧ 1 ≤ f ∧ f ≤ 500) ∧ 0 ≤ i ∧ i ≤ 2500 ∧ 0 ≤ n ∧ n ≤ 2500
  · obtain ⟨⟨h1, h2, h3, h4⟩, h5, h6, h7, h8⟩ := h
    obtain ⟨oN, rfl⟩ : ∃ x : Nat, o = (x : Int) := ⟨o.toNat, by omega⟩
    obtain ⟨fN, rfl⟩ : ∃ x : Nat, f = (x : Int) := ⟨f.toNat, by omega⟩
    obtain ⟨iN, rfl⟩ : ∃ x : Nat, i = (x : Int) := ⟨i.toNat, by omega⟩
    obtain ⟨nN, rfl⟩ : ∃ x : Nat, n = (x : Int) := ⟨n.toNat, by omega⟩
    exact codeWide_near a oN fN iN nN (by omega) (by omega) (by omega) (by omega) (by omega) (by omega) w E kh
  · have hw : o < 1 ∨ (¬ o < 1 ∧ 25000 < o) ∨ (¬ o < 1 ∧ ¬ 25000 < o ∧ f < 1) ∨ (¬ o < 1 ∧ ¬ 25000 < o ∧ ¬ f < 1 ∧ 500 < f) ∨ (¬ o < 1 ∧ ¬ 25000 < o ∧ ¬ f < 1 ∧ ¬ 500 < f ∧ i < 0) ∨ (¬ o < 1 ∧ ¬ 25000 < o ∧ ¬ f < 1 ∧ ¬ 500 < f ∧ ¬ i < 0 ∧ 2500 < i) ∨ (¬ o < 1 ∧ ¬ 25000 < o ∧ ¬ f < 1 ∧ ¬ 500 < f ∧ ¬ i < 0 ∧ ¬ 2500 < i ∧ n < 0) ∨ (¬ o < 1 ∧ ¬ 25000 < o ∧ ¬ f < 1 ∧ ¬ 500 < f ∧ ¬ i < 0 ∧ ¬ 2500 < i ∧ ¬ n < 0 ∧ 2500 < n) := by omega
    clear h
    rcases hw with h1 | ⟨h1, h2⟩ | ⟨h1, h2, h3⟩ | ⟨h1, h2, h3, h4⟩ | ⟨h1, h2, h3, h4, h5⟩ | ⟨h1, h2, h3, h4, h5, h6⟩ | ⟨h1, h2, h3, h4, h5, h6, h7⟩ | ⟨h1, h2, h3, h4, h5, h6, h7, h8⟩
    all_goals (
      go_enter Tryd.func4, Tryd.ntmps4
      go_wp2_with fail
      refine kh.mono ?_
      rintro ev w1 ⟨rfl, hb1⟩
      go_wp2_with fail
      go_ret
      exact ⟨rfl, hb1⟩)
end Go.Proofs.YtgpfjlejmcdpmaaDoor
