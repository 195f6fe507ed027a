/- The document's memory: CheckOf, by a walk (under way). -/
import Derived.Test.YtbkmgempejckeaaDoorMemRE
import Derived.Test.YtbkmgempejckeaaDoorMemRJ
namespace Go.Proofs.YtbkmgempejckeaaDoor
open Go.RowKit

set_option maxRecDepth 100000 in
theorem checkOf_nil (w : World) : Calls Tryd.prog 13 #[.pointer none] w fun ev w' => ev = .returned (.int .i64 3) ∧ Below w.heap.size w w' := by
  have ks : Calls Tryd.prog 12 #[.pointer none] w fun ev w' => ev = .returned (.bool false) ∧ w' = w := by
    go_enter Tryd.func12, Tryd.ntmps12
    go_wp2_with fail
    go_ret
    exact ⟨rfl, rfl⟩
  go_enter Tryd.func13, Tryd.ntmps13
  go_wp2_with fail
  refine ks.mono ?_
  rintro ev w1 ⟨rfl, hq⟩
  rw [hq]
  clear hq w1
  go_wp2_with fail
  go_ret
  exact ⟨rfl, Below.refl _ _⟩
set_option maxRecDepth 100000 in
theorem checkOf_unfit (p o : Nat) (m : MD) (hF : ¬ m.FitsM) (w : World) (R : RepM p o m w) : Calls Tryd.prog 13 #[.pointer (some ⟨p, o, none⟩)] w fun ev w' => ev = .returned (.int .i64 3) ∧ Below w.heap.size w w' := by
  obtain ⟨_, _, _, _, _, hp, M, ⟨aW, cW, rfl, _⟩, _, _, _, ⟨aC, cC, rfl, _⟩⟩ := R
  have ks := shaped_no p o m.half m.old m.card m.W.length m.C.length cW cC aW aC m.used m.top m.oldTop _ _ _ hF w M
  go_enter Tryd.func13, Tryd.ntmps13
  go_wp2_with fail
  refine ks.mono ?_
  rintro ev w1 ⟨rfl, q, hq⟩
  have hb1 : Below w.heap.size w w1 := by rw [hq]; exact below_drewN (Below.refl _ _)
  clear hq
  go_wp2_with fail
  go_ret
  exact ⟨rfl, hb1⟩
end Go.Proofs.YtbkmgempejckeaaDoor
