/- Package lex: settle, by its contract. -/
import Derived.Test.YtpflpbfnifpchaaGreatDoorLexH
import Derived.Deep.RegionHeld3
import Derived.Deep.DrawnRows
namespace Go.Proofs.YtpflpbfnifpchaaGreatDoor
open Go.RowKit

/-- The innermost indentation lies where innermost looks. -/
theorem RS.top {B p : Nat} {s : ByteArray} {at_ : Nat} {l : List Int} {x : Int} {n : Nat} {tk : List Value} {w : World} (h : RS B p s at_ (l ++ [x]) n tk w) :
    ∃ g cap, w.cell? ⟨p, 2, none⟩ = some (.slice (some ⟨g, 0, none⟩) (l.length + 1) cap) ∧ w.cell? ⟨g, l.length, none⟩ = some (.int .i64 x) := by
  obtain ⟨_, _, _, ⟨g, cap, vt, c2, _, o2, _⟩, _, _⟩ := h
  refine ⟨g, cap, by simpa using c2, ?_⟩
  rcases o2.2 with ⟨h, _⟩ | ⟨g', cap', cur, h, _, hg', _, _, hsz, htk⟩
  · cases h
  · have eg : g' = g := by simp at h; exact h.1.symm
    subst eg
    rw [cell_of_row w g' l.length cur 3 (0, 0) hg']
    have e : (cur.toList.take ((l ++ [x]).length * 1))[l.length]? = ((l ++ [x]).map (Value.int .i64))[l.length]? := by rw [htk]
    rw [List.getElem?_take, if_pos (by simp)] at e
    rw [← Array.getElem?_toList, e]
    simp

theorem RS.drewN {B p : Nat} {s : ByteArray} {at_ : Nat} {op : List Int} {n : Nat} {tk : List Value} {w : World} (h : RS B p s at_ op n tk w) (q : Nat) : RS B p s at_ op n tk (w.drewN q) :=
  ⟨⟨h.hA.hs, h.hA.hat, h.hA.c0, h.hA.c1, h.hA.f1⟩, h.hp, h.hpl, h.ex, h.f2, h.f3⟩

theorem inner_any {B p : Nat} {s : ByteArray} {at_ : Nat} {l : List Int} {x : Int} {n : Nat} {tk : List Value} (w : World) (h : RS B p s at_ (l ++ [x]) n tk w) (hl : l.length ≤ 100000) :
    Calls Tryz.prog 30 #[.pointer (some ⟨p, 0, none⟩)] w fun ev w' => ev = .returned (.int .i64 x) ∧ ∃ q, w' = w.drewN q := by
  obtain ⟨g, cap, c2, cg⟩ := h.top
  exact innermost_any p w g l.length cap x hl c2 cg

/-- How many indentations a line closes, and what stays open, the innermost ahead. -/
def popTo (ind : Int) : List Int → Nat × List Int
  | [] => (0, [])
  | x :: xs => if ind < x then ((popTo ind xs).1 + 1, (popTo ind xs).2) else (0, x :: xs)

/-- Dedents, so many. -/
def dedents (i : Nat) : Nat → List Value
  | 0 => []
  | k + 1 => dedents i k ++ tokCells ⟨#[100, 101, 100, 101, 110, 116]⟩ ⟨#[]⟩ i

theorem ownsRow_far' {w w' : World} {base e size n : Nat} {v : Value} {xs : List Value} (h : w.ownsRow base e size v n xs) (hf : ∀ k, v.ownBlock = some k → w'.heap[k]? = w.heap[k]?) : w'.ownsRow base e size v n xs := by
  refine ⟨h.1, ?_⟩
  rcases h.2 with hn | ⟨g, cap, cur, hv, hb, hg, rest⟩
  · exact .inl hn
  · exact .inr ⟨g, cap, cur, hv, hb, (hf g (by rw [hv]; rfl)).trans hg, rest⟩

/-- A store of the slice open, one shorter. -/
theorem rs_pop {B p : Nat} {s : ByteArray} {at_ : Nat} {l : List Int} {x : Int} {n : Nat} {tk : List Value} {w : World} {g cap : Nat} (h : RS B p s at_ (l ++ [x]) n tk w) (hc : w.cell? ⟨p, 2, none⟩ = some (.slice (some ⟨g, 0, none⟩) (l.length + 1) cap)) :
    RS B p s at_ l n tk (w.setCell ⟨p, 2, none⟩ (.slice (some ⟨g, 0, none⟩) l.length cap)) ∧ Below B w (w.setCell ⟨p, 2, none⟩ (.slice (some ⟨g, 0, none⟩) l.length cap)) := by
  obtain ⟨hA, hp, hpl, ⟨g', cap', vt, c2, c3, o2, o3, ngp, ntp, ntg⟩, f2, f3⟩ := h
  have e : g' = g ∧ cap' = cap := by
    rw [hc] at c2
    simp at c2
    exact ⟨c2.1.symm, c2.2.symm⟩
  obtain ⟨rfl, rfl⟩ := e
  refine ⟨⟨⟨hA.hs, hA.hat, ?_, ?_, ?_⟩, hp, by rw [size_set]; exact hpl, ⟨g', cap', vt, World.cell?_setCell_same _ _ _ hc, ?_, ?_, ?_, ngp, ntp, ntg⟩, ?_, ?_⟩, (Below.refl _ _).setCell hp _⟩
  · rw [cell_set _ _ _ _ _ (by decide)]; exact hA.c0
  · rw [cell_set _ _ _ _ _ (by decide)]; exact hA.c1
  · rw [frozen_set]; exact hA.f1
  · rw [cell_set _ _ _ _ _ (by decide)]; exact c3
  · refine ⟨by simp, ?_⟩
    rcases o2.2 with ⟨h, _⟩ | ⟨g2, cap2, cur, h, hb, hg2, hle, hm, hsz, htk⟩
    · cases h
    · have eg : g2 = g' ∧ cap2 = cap' := by simp at h; exact ⟨h.1.symm, h.2.symm⟩
      obtain ⟨rfl, rfl⟩ := eg
      refine .inr ⟨g2, cap2, cur, rfl, hb, ?_, by simp at hle; omega, hm, hsz, ?_⟩
      · rw [heap_set _ _ _ _ _ ngp]; exact hg2
      · have := congrArg (List.take l.length) htk
        rw [List.take_take] at this
        simpa using this
  · exact ownsRow_far' o3 (fun k hk => heap_set _ _ _ _ _ (fun e => ntp (by rw [hk, e])))
  · rw [frozen_set]; exact f2
  · rw [frozen_set]; exact f3
end Go.Proofs.YtpflpbfnifpchaaGreatDoor
