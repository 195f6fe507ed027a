/- The document's CheckOf of every memory; All of a right one; Check of a right one: by contracts. -/
import Derived.Test.YtbkmgempejckeaaDoorMemRH
import Derived.Test.YtbkmgempejckeaaDoorMemRG
import Derived.Test.YtbkmgempejckeaaDoorMemRN
namespace Go.Proofs.YtbkmgempejckeaaDoor
open Go.RowKit

/-- What CheckOf answers. -/
def CheckPost (m : MD) (w : World) (ev : Ending) (w' : World) : Prop := Below w.heap.size w w' ∧ ((∃ vs, m.Shape vs ∧ m.cardsB = true ∧ ev = .returned (.int .i64 0)) ∨ (∃ vs, m.Shape vs ∧ m.cardsB = false ∧ ev = .returned (.int .i64 5)) ∨ ((∀ vs, ¬ m.Shape vs) ∧ ev = .returned (.int .i64 3)))
theorem checkOf_any (p o : Nat) (m : MD) (h64 : MD64 m) (bR : m.R.length ≤ 300000) (bK : m.K.length ≤ 300000) (bI : m.I.length ≤ 300000) (w : World) (R : RepM p o m w) :
    Calls Tryd.prog 13 #[.pointer (some ⟨p, o, none⟩)] w (CheckPost m w) := by
  by_cases hF : m.FitsM
  · refine (checkOf_fit p o m hF h64 bR bK bI w R).mono ?_
    rintro ev w' ⟨n, rfl, hb, hc⟩
    rcases hc.out hF h64 with ⟨vs, h1, h2, rfl⟩ | ⟨vs, h1, h2, rfl⟩ | ⟨h1, rfl⟩
    · exact ⟨hb, .inl ⟨vs, h1, h2, rfl⟩⟩
    · exact ⟨hb, .inr (.inl ⟨vs, h1, h2, rfl⟩)⟩
    · exact ⟨hb, .inr (.inr ⟨h1, rfl⟩)⟩
  · refine (checkOf_unfit p o m hF w R).mono ?_
    rintro ev w' ⟨rfl, hb⟩
    exact ⟨hb, .inr (.inr ⟨fun vs h => hF h.1, rfl⟩)⟩
theorem all_right (p o : Nat) (m : MD) (vs : List Nat) (hS : m.Shape vs) (h64 : MD64 m) (w : World) (R : RepM p o m w) :
    Calls Tryd.prog 26 #[.pointer (some ⟨p, o, none⟩)] w fun ev w' => ∃ ao cap, ev = .returned (.tuple #[.slice ao vs.length cap, .bool true]) ∧ RowV w' (.slice ao vs.length cap) vs.length (objsV m.F vs) ∧ Below w.heap.size w w' := by
  obtain ⟨_, _, _, _, _, hp, M, ⟨aW, cW, rfl, hcW, fW⟩, _, _, _, ⟨aC, cC, rfl, hcC, fC⟩⟩ := R
  obtain ⟨b, ob, rfl, lb, gW⟩ := fW hS.len.1
  refine (all_any p o b ob m.W.length m.C.length cW m.half m.old m.card m.used m.top m.oldTop _ _ _ _ m.n0 m.n1 m.m0 m.m1 m.F w M hS.1 (MD.parts hS.1) (fun i hi => gW i _ (words_at (by unfold MD.F; rw [List.getD_eq_getElem?_getD, List.getElem?_eq_getElem hi]; rfl))) (MD.range h64)).mono ?_
  obtain ⟨k1, k2, rfl, g1, g2⟩ := hS.bare
  rintro ev w' ⟨hb, ⟨l1, l2, ao, cap, e1, e2, rfl, hown⟩ | ⟨hno, _⟩⟩
  · rw [g1] at e1
    rw [g2] at e2
    cases e1
    cases e2
    rw [List.length_append]
    exact ⟨ao, cap, rfl, rowV_own hown, hb⟩
  · rw [g1, g2] at hno
    rcases hno with h | h <;> cases h
theorem check_right (a : Nat → Addr) (p : Nat) (m : MD) (vs : List Nat) (hS : m.Shape vs) (hC : m.cardsB = true) (h64 : MD64 m) (bR : m.R.length ≤ 300000) (bK : m.K.length ≤ 300000) (bI : m.I.length ≤ 300000) (w : World) (E : MErr3 a w) (R : RepP p m w) :
    Calls Tryd.prog 28 #[.pointer (some ⟨p, 0, none⟩)] w fun ev w' => ev = .returned .nilIface ∧ Below w.heap.size w w' := by
  have ks := survey_right a p m vs hS hC h64 bR bK bI w E R
  go_enter Tryd.func28, Tryd.ntmps28
  go_wp2_with fail
  refine ks.mono ?_
  rintro ev w1 ⟨bh, rfl, _, _, hb⟩
  go_wp2_with fail
  go_ret
  exact ⟨rfl, hb⟩
end Go.Proofs.YtbkmgempejckeaaDoor
