/- Package code: a flow in memory; to and free, by contracts. -/
import Derived.Test.YtgpfjlejmcdpmaaDoorCodC
import Derived.Deep.AppendLies
namespace Go.Proofs.YtgpfjlejmcdpmaaDoor
open Go.RowKit

theorem Known.same {bm : Nat} {w w' : World} (h : Known bm w) (hb : w'.heap[bm]? = w.heap[bm]?) : Known bm w' := by
  obtain ⟨es, clock, h1, h2⟩ := h
  exact ⟨es, clock, hb.trans h1, h2⟩
/-- How a flow stands: blocks from B on are its own; c ops were come to. -/
structure FL (w0 : World) (bf bo oo n co bm ga gc : Nat) (A : Nat → Int) (c : Nat) (vW : Value) (k : Nat) (xs : List Value) (w : World) : Prop where
  below : Below w0.heap.size w0 w
  lo : w0.heap.size ≤ bf ∧ w0.heap.size ≤ ga ∧ w0.heap.size ≤ gc
  ne : bf ≠ ga ∧ bf ≠ gc ∧ ga ≠ gc
  flow : w.heap[bf]? = some (.cells #[.slice (some ⟨bo, oo, none⟩) n co, .map (some bm), .slice (some ⟨ga, 0, none⟩) n n, .slice (some ⟨gc, 0, none⟩) n n, vW] 91)
  st : ∃ ca, w.heap[ga]? = some (.cells ca 94) ∧ ca.size = n * 2 ∧ ∀ j, j < c → ca[j * 2]? = some (.int .i64 (A j)) ∧ ca[j * 2 + 1]? = some (.int .i64 (-1))
  cm : ∃ cc, w.heap[gc]? = some (.cells cc 4) ∧ cc.size = n ∧ ∀ j, j < n → cc[j]? = some (.bool (decide (j < c)))
  work : w.ownsRow w0.heap.size 3 1 vW k xs
  apart : ∀ g, vW.ownBlock = some g → g ≠ bf ∧ g ≠ ga ∧ g ≠ gc
theorem FL.keep {w0 : World} {bf bo oo n co bm ga gc : Nat} {A : Nat → Int} {c : Nat} {vW : Value} {k : Nat} {xs : List Value} {w w' : World} (F : FL w0 bf bo oo n co bm ga gc A c vW k xs w) (h : Below w.heap.size w w') : FL w0 bf bo oo n co bm ga gc A c vW k xs w' := by
  obtain ⟨h1, h2, h3, h4, ⟨ca, h5, h6⟩, ⟨cc, h7, h8⟩, h9, h10⟩ := F
  exact ⟨h1.trans (h.mono h1.size), h2, h3, (h.block bf (lt_of_heap h4)).trans h4, ⟨ca, (h.block ga (lt_of_heap h5)).trans h5, h6⟩, ⟨cc, (h.block gc (lt_of_heap h7)).trans h7, h8⟩, ownsRow_far' h9 (fun k hk => h.block k (own_lt2 h9 k hk).2), h10⟩
/-- An op is come to: its mark. -/
theorem FL.mark {w0 : World} {bf bo oo n co bm ga gc : Nat} {A : Nat → Int} {c : Nat} {vW : Value} {k : Nat} {xs : List Value} {w : World} (F : FL w0 bf bo oo n co bm ga gc A c vW k xs w) (hc : c < n) (v : Int) :
    FL w0 bf bo oo n co bm ga gc (fun j => if j = c then v else A j) (c + 1) vW k xs (((w.setCell ⟨gc, c, none⟩ (.bool true)).setCell ⟨ga, c * 2, none⟩ (.int .i64 v)).setCell ⟨ga, c * 2 + 1, none⟩ (.int .i64 (-1))) := by
  obtain ⟨h1, h2, h3, h4, ⟨ca, h5, h6, h6'⟩, ⟨cc, h7, h8, h8'⟩, h9, h10⟩ := F
  have s1 : (w.setCell ⟨gc, c, none⟩ (.bool true)).heap[ga]? = some (.cells ca 94) := (heap_set _ _ _ _ _ h3.2.2).trans h5
  have s2 := heap_set_same (o := c * 2 + 1) (v := .int .i64 (-1)) (heap_set_same (o := c * 2) (v := .int .i64 v) s1)
  have far : ∀ g, g ≠ ga → g ≠ gc → (((w.setCell ⟨gc, c, none⟩ (.bool true)).setCell ⟨ga, c * 2, none⟩ (.int .i64 v)).setCell ⟨ga, c * 2 + 1, none⟩ (.int .i64 (-1))).heap[g]? = w.heap[g]? := fun g g1 g2 => (heap_set _ _ _ _ _ g1).trans ((heap_set _ _ _ _ _ g1).trans (heap_set _ _ _ _ _ g2))
  refine ⟨((h1.setCell h2.2.2 _).setCell h2.2.1 _).setCell h2.2.1 _, h2, h3, (far bf h3.1 h3.2.1).trans h4, ⟨_, s2, by simp [h6], fun j hj => ?_⟩, ⟨_, ((heap_set _ _ _ _ _ (fun e => h3.2.2 e.symm)).trans ((heap_set _ _ _ _ _ (fun e => h3.2.2 e.symm)).trans (heap_set_same h7))), by simp [h8], fun j hj => ?_⟩, ownsRow_far' h9 (fun g hg => far g (h10 g hg).2.1 (h10 g hg).2.2), h10⟩
  · by_cases e : j = c
    · subst e
      constructor
      · rw [Array.getElem?_setIfInBounds_ne (by omega), Array.getElem?_setIfInBounds_self_of_lt (by omega), if_pos rfl]
      · rw [Array.getElem?_setIfInBounds_self_of_lt (by simp; omega)]
    · have := h6' j (by omega)
      rw [Array.getElem?_setIfInBounds_ne (by omega), Array.getElem?_setIfInBounds_ne (by omega), Array.getElem?_setIfInBounds_ne (by omega), Array.getElem?_setIfInBounds_ne (by omega)]
      simp only [if_neg e]
      exact this
  · by_cases e : j = c
    · subst e
      rw [Array.getElem?_setIfInBounds_self_of_lt (by omega), decide_eq_true (by omega)]
    · rw [Array.getElem?_setIfInBounds_ne (by omega), h8' j hj]
      congr 2
      by_cases l : j < c
      · rw [decide_eq_true l, decide_eq_true (by omega)]
      · rw [decide_eq_false l, decide_eq_false (by omega)]
theorem free_any (bf : Nat) (v : Int) (w : World) : Calls Tryd.prog 53 #[.pointer (some ⟨bf, 0, none⟩), .agg #[.int .i64 v, .int .i64 (-1)]] w fun ev w' => ev = .returned (.int .i64 v) ∧ Below w.heap.size w w' := by
  go_enter Tryd.func53, Tryd.ntmps53
  go_wp2_with fail
  go_ret
  exact ⟨rfl, (Below.refl _ _).alloc (Nat.le_refl _) _⟩
end Go.Proofs.YtgpfjlejmcdpmaaDoor
