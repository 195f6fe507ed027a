/- near and sameMemory, by contracts. -/
import Derived.Test.YtopcpeemibmgbaaDoorMemH
namespace Go.Proofs.YtopcpeemibmgbaaDoor
open Go.RowKit

set_option maxHeartbeats 2000000 in
set_option maxRecDepth 100000 in
theorem near_yes (p o : Nat) (m : MD) (w : World) (h : RepM p o m w) (h1 : m.W.length ≤ 1000) (h2 : m.R.length ≤ 100) (h3 : m.K.length ≤ 100) (h4 : m.I.length ≤ 100) (h5 : m.C.length ≤ 1000) :
    Calls Tryd.prog 6 #[.pointer (some ⟨p, o, none⟩)] w fun ev w' => ev = .returned (.bool true) ∧ w' = w := by
  obtain ⟨_, _, _, _, _, _, ⟨c0, c1, c2, c3, c4, c5, c6, c7, c8, c9, c10⟩, ⟨_, _, rfl, _⟩, ⟨_, _, rfl, _⟩, ⟨_, _, rfl, _⟩, ⟨_, _, rfl, _⟩, ⟨_, _, rfl, _⟩⟩ := h
  have d1 : (m.W.length : Int) ≤ 1000 := by omega
  have d2 : (m.R.length : Int) ≤ 100 := by omega
  have d3 : (m.K.length : Int) ≤ 100 := by omega
  have d4 : (m.I.length : Int) ≤ 100 := by omega
  have d5 : (m.C.length : Int) ≤ 1000 := by omega
  clear c0 c1 c2 c4 c5 c6
  go_enter Tryd.func6, Tryd.ntmps6
  go_wp2
  go_ret
  exact ⟨rfl, rfl⟩
set_option maxHeartbeats 2000000 in
set_option maxRecDepth 100000 in
theorem near_no (p o : Nat) (m : MD) (w : World) (h : RepM p o m w) (hn : ¬ (m.W.length ≤ 1000 ∧ m.R.length ≤ 100 ∧ m.K.length ≤ 100 ∧ m.I.length ≤ 100 ∧ m.C.length ≤ 1000)) :
    Calls Tryd.prog 6 #[.pointer (some ⟨p, o, none⟩)] w fun ev w' => ev = .returned (.bool false) ∧ w' = w := by
  have hw : (1000 < (m.W.length : Int)) ∨ ((m.W.length : Int) ≤ 1000 ∧ (100 < (m.R.length : Int))) ∨ ((m.W.length : Int) ≤ 1000 ∧ (m.R.length : Int) ≤ 100 ∧ (100 < (m.K.length : Int))) ∨ ((m.W.length : Int) ≤ 1000 ∧ (m.R.length : Int) ≤ 100 ∧ (m.K.length : Int) ≤ 100 ∧ (100 < (m.I.length : Int))) ∨ ((m.W.length : Int) ≤ 1000 ∧ (m.R.length : Int) ≤ 100 ∧ (m.K.length : Int) ≤ 100 ∧ (m.I.length : Int) ≤ 100 ∧ (1000 < (m.C.length : Int))) := by omega
  clear hn
  obtain ⟨_, _, _, _, _, _, ⟨c0, c1, c2, c3, c4, c5, c6, c7, c8, c9, c10⟩, ⟨_, _, rfl, _⟩, ⟨_, _, rfl, _⟩, ⟨_, _, rfl, _⟩, ⟨_, _, rfl, _⟩, ⟨_, _, rfl, _⟩⟩ := h
  clear c0 c1 c2 c4 c5 c6
  rcases hw with d1 | ⟨d1, d2⟩ | ⟨d1, d2, d3⟩ | ⟨d1, d2, d3, d4⟩ | ⟨d1, d2, d3, d4, d5⟩
  case inr.inr.inr.inr =>
    have d6 : decide ((m.C.length : Int) ≤ 1000) = false := by rw [decide_eq_false_iff_not]; exact Int.not_le.2 d5
    go_enter Tryd.func6, Tryd.ntmps6
    go_wp2
    go_ret
    exact ⟨rfl, rfl⟩
  all_goals go_enter Tryd.func6, Tryd.ntmps6
  all_goals go_wp2
  all_goals go_ret
  all_goals exact ⟨rfl, rfl⟩
theorem RepM.drewN {p o : Nat} {m : MD} {w : World} (h : RepM p o m w) (q : Nat) : RepM p o m (w.drewN q) := h.below (below_drewN (Below.refl _ _))

end Go.Proofs.YtopcpeemibmgbaaDoor
