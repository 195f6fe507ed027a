/- Package mem: what can be come to, one word more (reach's closure), by a contract. -/
import Derived.Test.YtnenggkgfhgcnaaGreatDoorJnI
import Derived.Test.YtnenggkgfhgcnaaGreatDoorMemRM
import Derived.Maps.OwnSet
namespace Go.Proofs.YtnenggkgfhgcnaaGreatDoor
open Go.RowKit Go.Maps

/-- An object of a graph. -/
def GObj (b : Nat) (F : Nat → Int) (f : Nat) (cs : List Value) : Prop := ∃ ao cap, cs = [.int .i64 (f : Int), .int .i64 (F f / 4 % 256), .slice ao (szN (F f)) cap] ∧ szN (F f) ≤ cap ∧ (0 < szN (F f) → ao = some ⟨b, f + 1, none⟩)
/-- Objects of a graph, in a row. -/
def GObjs (b : Nat) (F : Nat → Int) (out : List Nat) (xs : List (List Value)) : Prop := xs.length = out.length ∧ ∀ (j f : Nat), out[j]? = some f → ∃ cs, xs[j]? = some cs ∧ GObj b F f cs
theorem gobjs_nil (b : Nat) (F : Nat → Int) : GObjs b F [] [] := ⟨rfl, fun j f h => by simp at h⟩
theorem gobjs_snoc {b : Nat} {F : Nat → Int} {out : List Nat} {xs : List (List Value)} (h : GObjs b F out xs) {f : Nat} {cs : List Value} (hc : GObj b F f cs) : GObjs b F (out ++ [f]) (xs ++ [cs]) := by
  refine ⟨by simp [h.1], fun j g hj => ?_⟩
  rcases Nat.lt_or_ge j out.length with hl | hl
  · rw [List.getElem?_append_left hl] at hj
    obtain ⟨c, h1, h2⟩ := h.2 j g hj
    exact ⟨c, by rw [List.getElem?_append_left (by rw [h.1]; exact hl)]; exact h1, h2⟩
  · rw [List.getElem?_append_right hl] at hj
    have hz : j - out.length = 0 := by
      have := (List.getElem?_eq_some_iff.1 hj).1
      simp at this
      omega
    rw [hz] at hj
    simp at hj
    subst hj
    exact ⟨cs, by rw [List.getElem?_append_right (by rw [h.1]; exact hl), h.1, hz]; rfl, hc⟩
/-- The numbers of objects. -/
structure GNum (D : DataW Unit) (out : List Nat) : Prop where
  isMap : IsMap D
  has : ∀ f : Nat, has D (.int .u64 (((f : Int) + 1) * 4)) = decide (f ∈ out)
  num : ∀ (j f : Nat), out[j]? = some f → D.atKey (.int .u64 (((f : Int) + 1) * 4)) (.lit (.int .i64 0)) = .lit (.int .i64 (j : Int))
  only : ∀ x : Int, Maps.has D (.int .u64 x) = true → ∃ f : Nat, f ∈ out ∧ x = ((f : Int) + 1) * 4
theorem gnum_nil : GNum (.map []) [] := ⟨⟨[], rfl⟩, fun f => by simp [Maps.has], fun j f h => by simp at h, fun x h => by simp [Maps.has] at h⟩
theorem gnum_snoc {D : DataW Unit} {out : List Nat} (h : GNum D out) {f : Nat} (hf : f ∉ out) : GNum (D.put (.int .u64 (((f : Int) + 1) * 4)) (.lit (.int .i64 (out.length : Int)))) (out ++ [f]) := by
  have ne : ∀ g : Nat, g ≠ f → (Lit.int .u64 (((g : Int) + 1) * 4)) ≠ (Lit.int .u64 (((f : Int) + 1) * 4)) := fun g hg e => by
    simp only [Lit.int.injEq, true_and] at e
    omega
  refine ⟨h.isMap.put _ _, fun g => ?_, fun j g hj => ?_, fun x hx => ?_⟩
  rotate_left 2
  · by_cases e : x = ((f : Int) + 1) * 4
    · exact ⟨f, by simp, e⟩
    · rw [has_put_other (fun h => e (by simp only [Lit.int.injEq, true_and] at h; exact h))] at hx
      obtain ⟨g, hg, hxg⟩ := h.only x hx
      exact ⟨g, by simp [hg], hxg⟩
  · by_cases e : g = f
    · subst e
      rw [has_put_same h.isMap (by trivial)]
      simp
    · rw [has_put_other (ne g e), h.has g]
      simp [e]
  · by_cases e : g = f
    · subst e
      rw [atKey_put_same h.isMap (by trivial)]
      rcases Nat.lt_or_ge j out.length with hl | hl
      · rw [List.getElem?_append_left hl] at hj
        exact absurd (List.mem_of_getElem? hj) hf
      · have := (List.getElem?_eq_some_iff.1 hj).1
        simp at this
        obtain rfl : j = out.length := by omega
        rfl
    · rw [atKey_put_other (ne g e)]
      rcases Nat.lt_or_ge j out.length with hl | hl
      · rw [List.getElem?_append_left hl] at hj
        exact h.num j g hj
      · rw [List.getElem?_append_right hl] at hj
        have := (List.getElem?_eq_some_iff.1 hj).1
        simp at this
        have hz : j - out.length = 0 := by omega
        rw [hz] at hj
        simp at hj
        exact absurd hj.symm e
/-- How a graph stands: memory as it was, the captured variables, objects in a row, a map of numbers. -/
structure GS (B p b bh nW qm qh qg : Nat) (F : Nat → Int) (out : List Nat) (w0 w : World) : Prop where
  below : Below w0.heap.size w0 w
  lo : w0.heap.size ≤ B
  cm : w.cell? ⟨qm, 0, none⟩ = some (.pointer (some ⟨p, 0, none⟩))
  ch : w.cell? ⟨qh, 0, none⟩ = some (.slice (some ⟨bh, 0, none⟩) nW nW)
  lm : qm < B
  lh : qh < B
  gr : ∃ (vO : Value) (bm n : Nat) (D : DataW Unit) (xs : List (List Value)), w.heap[qg]? = some (.cells #[vO, .map (some bm)] 103) ∧ w.ownsRow B 106 3 vO out.length xs.flatten ∧ GObjs b F out xs ∧ w.ownsMap Tryz.prog 50 (plainElem Tryz.prog 3) bm n D ∧ n ≤ out.length ∧ GNum D out ∧ B ≤ bm ∧ B ≤ qg ∧ bm ≠ qg ∧ vO.ownBlock ≠ some qg ∧ vO.ownBlock ≠ some bm
theorem GS.keep {B p b bh nW qm qh qg : Nat} {F : Nat → Int} {out : List Nat} {w0 w w' : World} (h : GS B p b bh nW qm qh qg F out w0 w) (hb : Below w.heap.size w w') : GS B p b bh nW qm qh qg F out w0 w' := by
  obtain ⟨vO, bm, n, D, xs, h1, h2, h3, h4, hr⟩ := h.gr
  exact ⟨h.below.trans (hb.mono h.below.size), h.lo, (hb.cell (p := ⟨qm, 0, none⟩) (lt_of_cell h.cm)).trans h.cm, (hb.cell (p := ⟨qh, 0, none⟩) (lt_of_cell h.ch)).trans h.ch, h.lm, h.lh, vO, bm, n, D, xs, (hb.block qg (lt_of_heap h1)).trans h1, ownsRow_far' h2 (fun k hk => hb.block k (own_lt2 h2 k hk).2), h3, h4.kept (grown_of_below hb) (by simp), hr⟩
end Go.Proofs.YtnenggkgfhgcnaaGreatDoor
