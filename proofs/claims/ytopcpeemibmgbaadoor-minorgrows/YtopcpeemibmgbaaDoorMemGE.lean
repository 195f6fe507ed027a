/- Package mem: what can be come to, one word more (reach's closure), by a contract. -/
import Derived.Test.YtopcpeemibmgbaaDoorJnI
import Derived.Test.YtopcpeemibmgbaaDoorMemRM
import Derived.Maps.OwnSet
namespace Go.Proofs.YtopcpeemibmgbaaDoor
open Go.RowKit Go.Maps

/-- An object of a graph. -/
def GObj (b : Nat) (F : Nat → Int) (f : Nat) (cs : List Value) : Prop := ∃ ao cap, cs = [.int .i64 (f : Int), .int .i64 (F f / 4 % 256), .slice ao (szN (F f)) cap] ∧ szN (F f) ≤ cap ∧ (0 < szN (F f) → ao = some ⟨b, f + 1, none⟩)
/-- Objects of a graph, in a row. -/
def GObjs (b : Nat) (F : Nat → Int) (out : List Nat) (xs : List (List Value)) : Prop := xs.length = out.length ∧ ∀ (j f : Nat), out[j]? = some f → ∃ cs, xs[j]? = some cs ∧ GObj b F f cs
theorem gobjs_nil (b : Nat) (F : Nat → Int) : GObjs b F [] [] := ⟨rfl, fun j f h => by simp at h⟩
theorem gobjs_snoc {b : Nat} {F : Nat → Int} {out : List Nat} {xs : List (List Value)} (h : GObjs b F out xs) {f : Nat} {cs : List Value} (hc : GObj b F f cs) : GObjs b F (out ++ [f]) (xs ++ [cs]) := by
  refine ⟨by simp [h.1], fun j g hj => ?_⟩
  rcases Nat.lt_or_ge j out.length with hl | hl
  · rw [List.getElem?_append_left hl] at hj
    obtain ⟨c, h1, h2⟩ := h.2 j g hj
    exact ⟨c, by rw [List.getElem?_append_left (by rw [h.1]; exact hl)]; exact h1, h2⟩
  · rw [List.getElem?_append_right hl] at hj
    have hz : j - out.length = 0 := by
      have := (List.getElem?_eq_some_iff.1 hj).1
      simp at this
      omega
    rw [hz] at hj
    simp at hj
    subst hj
    exact ⟨cs, by rw [List.getElem?_append_right (by rw [h.1]; exact hl), h.1, hz]; rfl, hc⟩
/-- The numbers of objects. -/
structure GNum (D : DataW Unit) (out : List Nat) : Prop where
  isMap : IsMap D
  has : ∀ f : Nat, has D (.int .u64 (((f : Int) + 1) * 4)) = decide (f ∈ out)
  num : ∀ (j f : Nat), out[j]? = some f → D.atKey (.int .u64 (((f : Int) + 1) * 4)) (.lit (.int .i64 0)) = .lit (.int .i64 (j : Int))
  only : ∀ x : Int, Maps.has D (.int .u64 x) = true → ∃ f : Nat, f ∈ out ∧ x = ((f : Int) + 1) * 4
theorem gnum_nil : GNum (.map []) [] := ⟨⟨[], rfl⟩, fun f => by simp [Maps.has], fun j f h => by simp at h, fun x h => by simp [Maps.has] at h⟩
theorem gnum_snoc {D : DataW Unit} {out : List Nat} (h : GNum D out) {f : Nat} (hf : f ∉ out) : GNum (D.put (.int .u64 (((f : Int) + 1) * 4)) (.lit (.int .i64 (out.length : Int)))) (out ++ [f]) := by
  have ne : ∀ g : Nat, g ≠ f → (Lit.int .u64 (((g : Int) + 1) * 4)) ≠ (Lit.int .u64 (((f : Int) + 1) * 4)) := fun g hg e => by
    simp only [Lit.int.injEq, true_and] at e
    omega
  refine ⟨h.isMap.put _ _, fun g => ?_, fun j g hj => ?_, fun x hx => ?_⟩
  rotate_left 2
  · by_cases e : x = ((f : Int) + 1) * 4
    · exact ⟨f, by simp, e⟩
    · rw [has_put_other (fun h => e (by simp only [Lit.int.injEq, true_and] at h; exact h))] at hx
      obtain ⟨g, hg, hxg⟩ := h.only x hx
      exact ⟨g, by simp [hg], hxg⟩
  · by_cases e : g = f
    · subst e
      rw [has_put_same h.isMap (by trivial)]
      simp
    · rw [has_put_other (ne g e), h.has g]
      simp [e]
  · by_cases e : g = f
    · subst e
      rw [atKey_put_same h.isMap (by trivial)]
      rcases Nat.lt_or_ge j out.length with hl | hl
      · rw [List.getElem?_append_left hl] at hj
        exact absurd (List.mem_of_getElem? hj) hf
      · have := (List.getElem?_eq_some_iff.1 hj).1
        simp at this
        obtain rfl : j = out.length := by omega
        rfl
    · rw [atKey_put_other (ne g e)]
      rcases Nat.lt_or_ge j out.length with hl | hl
      · rw [List.getElem?_append_left hl] at hj
        exact h.num j g hj
      · rw [List.getElem?_append_right hl] at hj
        have := (List.getElem?_eq_some_iff.1 hj).1
        simp at this
        have hz : j - out.length = 0 := by omega
        rw [hz] at hj
        simp at hj
        exact absurd hj.symm e
end Go.Proofs.YtopcpeemibmgbaaDoor
