/- The document's memory: words that point to objects, by contracts. -/
import Derived.Test.YtlifnjfmocjfjaaGreatDoorMemU
namespace Go.Proofs.YtlifnjfmocjfjaaGreatDoor
open Go.RowKit

/-- An object's cells. -/
def objV (F : Nat → Int) (f : Nat) : List Value := [.int .i64 (f : Int), .int .i64 (F f / 4 % 256), .int .i64 (F f / 1024 % 16), .int .i64 (F f / 65536)]
def objsV (F : Nat → Int) (vs : List Nat) : List Value := vs.flatMap (objV F)
theorem lenO (F : Nat → Int) (vs : List Nat) : (objsV F vs).length = vs.length * 4 := by
  induction vs with
  | nil => rfl
  | cons v vs ih => simp [objsV, objV] at *; omega
theorem objs_at {F : Nat → Int} {vs : List Nat} : ∀ {j f : Nat}, vs[j]? = some f → ∀ k, k < 4 → (objsV F vs)[j * 4 + k]? = (objV F f)[k]? := by
  induction vs with
  | nil => intro j f h; cases h
  | cons v vs ih =>
    intro j f h k hk
    have e : objsV F (v :: vs) = objV F v ++ objsV F vs := rfl
    have el : (objV F v).length = 4 := rfl
    rw [e]
    cases j with
    | zero =>
      cases h
      rw [List.getElem?_append_left (by omega)]
      simp
    | succ j =>
      rw [List.getElem?_append_right (by omega), el, show (j + 1) * 4 + k - 4 = j * 4 + k by omega]
      exact ih (j := j) (f := f) (by simpa using h) k hk
/-- Where a word points to (-1: nowhere). -/
def ptI (x : Int) : Int := if x % 4 = 0 ∧ 4 ≤ x ∧ x / 4 ≤ 1099511627776 then x / 4 - 1 else -1
/-- Which object begins there (-1: none). -/
def objI (vs : List Nat) (x : Int) : Int := match vs.findIdx? (fun v : Nat => (v : Int) == x) with
  | some i => (i : Int)
  | none => -1
theorem objI_at {vs : List Nat} {x : Int} {k f : Nat} (hk : vs[k]? = some f) (hf : (f : Int) = x) (hno : ∀ i g : Nat, i < k → vs[i]? = some g → (g : Int) ≠ x) : objI vs x = (k : Int) := by
  unfold objI
  have : vs.findIdx? (fun v : Nat => (v : Int) == x) = some k := by
    rw [List.findIdx?_eq_some_iff_getElem]
    obtain ⟨hl, e⟩ := List.getElem?_eq_some_iff.1 hk
    refine ⟨hl, by rw [e]; simpa using hf, fun j hj => ?_⟩
    have := hno j vs[j] hj (List.getElem?_eq_getElem (by omega))
    simpa using this
  rw [this]
theorem objI_no {vs : List Nat} {x : Int} (hno : ∀ i g : Nat, vs[i]? = some g → (g : Int) ≠ x) : objI vs x = -1 := by
  unfold objI
  have : vs.findIdx? (fun v : Nat => (v : Int) == x) = none := by
    rw [List.findIdx?_eq_none_iff]
    intro g hg
    obtain ⟨i, hi⟩ := List.mem_iff_getElem?.1 hg
    have := hno i g hi
    simpa using this
  rw [this]
/-- May a word stand in a root? In the document's way. -/
def fieldR (vs : List Nat) (x : Int) : Bool := if x % 4 = 0 then (x == 0) || (decide (0 ≤ ptI x) && decide (0 ≤ objI vs (ptI x))) else if x % 4 = 1 then true else if x % 4 = 2 then decide (x / 4 ≤ 2) else false
end Go.Proofs.YtlifnjfmocjfjaaGreatDoor
