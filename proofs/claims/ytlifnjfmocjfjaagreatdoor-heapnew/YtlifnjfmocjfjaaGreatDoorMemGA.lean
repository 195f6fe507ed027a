/- The document's memory: what can be come to (come), by a contract. -/
import Derived.Test.YtlifnjfmocjfjaaGreatDoorMemRC
namespace Go.Proofs.YtlifnjfmocjfjaaGreatDoor
open Go.RowKit

/-- What is come to by one word more. -/
def comeP (out : List Nat) (x : Int) : List Nat := if 0 ≤ ptI x ∧ objI out (ptI x) < 0 then out ++ [(ptI x).toNat] else out
theorem objI_neg {vs : List Nat} {x : Int} (h : ¬ 0 ≤ objI vs x) : objI vs x = -1 := by
  unfold objI at *
  split at h <;> simp_all
theorem objI_some {vs : List Nat} {x : Int} (h : 0 ≤ objI vs x) : ∃ k f : Nat, objI vs x = (k : Int) ∧ vs[k]? = some f ∧ (f : Int) = x ∧ k < vs.length := by
  unfold objI at *
  cases e : vs.findIdx? (fun v : Nat => (v : Int) == x) with
  | none => rw [e] at h; simp at h
  | some i =>
    obtain ⟨hl, h1, _⟩ := List.findIdx?_eq_some_iff_getElem.1 e
    exact ⟨i, vs[i], rfl, List.getElem?_eq_getElem hl, by simpa using h1, hl⟩
theorem objI_mem {vs : List Nat} {f : Nat} : 0 ≤ objI vs (f : Int) ↔ f ∈ vs := by
  constructor
  · intro h
    obtain ⟨k, g, _, h1, h2, _⟩ := objI_some h
    obtain rfl : g = f := by omega
    exact List.mem_of_getElem? h1
  · intro h
    rcases Int.lt_or_le (objI vs (f : Int)) 0 with hl | hl
    · exfalso
      unfold objI at hl
      cases e : vs.findIdx? (fun v : Nat => (v : Int) == (f : Int)) with
      | none =>
        rw [List.findIdx?_eq_none_iff] at e
        have := e f h
        simp at this
      | some i => rw [e] at hl; simp at hl; omega
    · exact hl
end Go.Proofs.YtlifnjfmocjfjaaGreatDoor
