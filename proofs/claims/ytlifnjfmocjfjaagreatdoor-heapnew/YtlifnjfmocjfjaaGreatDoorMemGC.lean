/- The document's memory: all that can be come to (Reached), how much that is (LiveOf), by contracts. -/
import Derived.Test.YtlifnjfmocjfjaaGreatDoorMemGB
import Derived.Test.YtlifnjfmocjfjaaGreatDoorMemRK
namespace Go.Proofs.YtlifnjfmocjfjaaGreatDoor
open Go.RowKit

theorem shape_len {m : MD} {vs : List Nat} (S : m.Shape vs) : 0 < m.W.length ∧ m.W.length ≤ 300000 ∧ 0 < m.C.length := by
  have hnum := S.1.nums
  have hw := S.1.w
  have hc := S.1.c
  unfold numsOK at hnum
  have : 1 ≤ (m.old + m.card - 1) / m.card := (Int.le_ediv_iff_mul_le (by omega)).2 (by omega)
  omega
theorem md_range {m : MD} (h64 : MD64 m) : ∀ i, i < m.W.length → 0 ≤ m.F i ∧ m.F i < 18446744073709551616 := fun i hi => by
  unfold MD.F
  rw [List.getD_eq_getElem?_getD, List.getElem?_eq_getElem hi]
  exact h64.w _ (List.getElem_mem hi)
theorem MD.Shape.reachy {m : MD} {vs : List Nat} (S : m.Shape vs) (h64 : MD64 m) : Reachy m.F vs where
  held f hf hkd x hx := by
    obtain ⟨j, hj⟩ := List.mem_iff_getElem?.1 hx
    have hl := (List.getElem?_eq_some_iff.1 hj).1
    rw [fieldsP_len] at hl
    rw [fieldsP_at hl] at hj
    cases hj
    have hfi := (S.fine f hf).2
    refine held_field ?_
    rw [fieldR_eq (nW := m.W.length) (fun v hv => by have := (S.fine v hv).2; omega) (shape_len S).2.1 (md_range h64 _ (by omega)).1]
    exact S.held hf hl hkd
theorem MD.Shape.roots {m : MD} {vs : List Nat} (S : m.Shape vs) (h64 : MD64 m) : ∀ x ∈ m.R, Held vs x := fun x hx => by
  have h := S.2.2.2
  unfold MD.restB at h
  rw [Bool.and_eq_true] at h
  refine held_field ?_
  rw [fieldR_eq (nW := m.W.length) (fun v hv => by have := (S.fine v hv).2; omega) (shape_len S).2.1 (h64.r x hx).1]
  exact List.all_eq_true.1 h.1 x hx
/-- All that can be come to. -/
def MD.reach (m : MD) (vs : List Nat) : List Nat := reachP m.F (vs.length + 1) (comesP [] m.R) 0
theorem outs_nil (vs : List Nat) : Outs vs [] := ⟨fun f h => by simp at h, List.nodup_nil⟩
theorem sumN_step {F : Nat → Int} {l : List Nat} {k f : Nat} (h : l[k]? = some f) : ((l.take (k + 1)).map (fun f => 1 + szN (F f))).sum = ((l.take k).map (fun f => 1 + szN (F f))).sum + (1 + szN (F f)) := by
  rw [List.take_add_one, h, List.map_append, List.sum_append]
  simp
/-- Live words. -/
def MD.live (m : MD) (vs : List Nat) : Nat := ((m.reach vs).map (fun f => 1 + szN (m.F f))).sum
end Go.Proofs.YtlifnjfmocjfjaaGreatDoor
