/- The document's answer for package lex: what LexOf holds in memory. -/
import Derived.Test.YtpflpbfnifpchaaGreatDoorRefG
namespace Go.Proofs.YtpflpbfnifpchaaGreatDoor
open Go.RowKit

theorem own_lt2 {w : World} {base e size n : Nat} {v : Value} {xs : List Value} (h : w.ownsRow base e size v n xs) : ∀ k, v.ownBlock = some k → k < w.heap.size := by
  intro k hk
  rcases h.2 with ⟨rfl, _⟩ | ⟨g, cap, cur, rfl, _, hg, _⟩
  · simp [Value.ownBlock] at hk
  · simp [Value.ownBlock] at hk
    subst hk
    exact lt_of_heap hg

/-- LexOf's memory: the fault that it may tell, its tokens, its open indentations (the innermost ahead in st). -/
structure RO (w : World) (st : List Int) (n : Nat) (tk : List Value) (v4 v5 : Value) (wr : World) : Prop where
  fault : wr.heap[w.heap.size]? = some (.cells #[.int .i64 0, .int .i64 0] 30)
  out : wr.ownsRow (w.heap.size + 1) 53 3 v4 n tk
  op : ∃ g cap, v5 = .slice (some ⟨g, 0, none⟩) st.length cap ∧ wr.ownsRow (w.heap.size + 1) 3 1 (.slice (some ⟨g, 0, none⟩) st.length cap) st.length (st.reverse.map (Value.int .i64)) ∧ v4.ownBlock ≠ some g
  below : Below w.heap.size w wr

theorem ro_init (w : World) : RO w [0] 0 [] (.slice none 0 0) (.slice (some ⟨w.heap.size + 1, 0, none⟩) 1 1) ((w.alloc (.cells #[.int .i64 0, .int .i64 0] 30)).alloc (.cells #[.int .i64 0] 3)) := by
  have hz : (w.alloc (.cells #[.int .i64 0, .int .i64 0] 30)).heap.size = w.heap.size + 1 := by simp
  refine ⟨?_, World.ownsRow_nil _ _ _ _, ⟨w.heap.size + 1, 1, rfl, ⟨rfl, .inr ⟨w.heap.size + 1, 1, #[.int .i64 0], rfl, Nat.le_refl _, ?_, Nat.le_refl _, by unfold maxLen; omega, rfl, rfl⟩⟩, by simp [Value.ownBlock]⟩, ((Below.refl _ _).alloc (Nat.le_refl _) _).alloc (by simp) _⟩
  · rw [Below.heap_alloc _ _ _ (by rw [hz]; omega)]
    exact heap_alloc_new _ _
  · rw [← hz]
    exact heap_alloc_new _ _

theorem RO.drewN {w : World} {st : List Int} {n : Nat} {tk : List Value} {v4 v5 : Value} {wr : World} (h : RO w st n tk v4 v5 wr) (q : Nat) : RO w st n tk v4 v5 (wr.drewN q) := ⟨h.fault, h.out, h.op, below_drewN h.below q⟩
theorem RO.drew {w : World} {st : List Int} {n : Nat} {tk : List Value} {v4 v5 : Value} {wr : World} (h : RO w st n tk v4 v5 wr) : RO w st n tk v4 v5 wr.drew := ⟨h.fault, h.out, h.op, h.below.drew⟩

/-- New blocks alone. -/
theorem RO.more {w : World} {st : List Int} {n : Nat} {tk : List Value} {v4 v5 : Value} {wr w1 : World} (h : RO w st n tk v4 v5 wr) (hb : Below wr.heap.size wr w1) : RO w st n tk v4 v5 w1 := by
  obtain ⟨g, cap, e, o, ne⟩ := h.op
  exact ⟨(hb.block _ (lt_of_heap h.fault)).trans h.fault, ownsRow_far' h.out (fun k hk => hb.block k (own_lt2 h.out k hk)), ⟨g, cap, e, ownsRow_far' o (fun k hk => hb.block k (own_lt2 o k hk)), ne⟩, h.below.trans (hb.mono h.below.size)⟩

theorem ro_add {w : World} {st : List Int} {n : Nat} {tk news : List Value} {v4 v5 : Value} {wr w1 : World} {gn capn : Nat} {o : Obj} (h : RO w st n tk v4 v5 wr) (hown1 : w1.ownsRow (w.heap.size + 1) 53 3 (.slice (some ⟨gn, 0, none⟩) (n + 1) capn) (n + 1) (tk ++ news)) (hgrow : (wr.alloc o).grownBy w1 v4.ownBlock) (hat : v4.ownBlock = some gn ∨ gn = wr.heap.size + 1) :
    RO w st (n + 1) (tk ++ news) (.slice (some ⟨gn, 0, none⟩) (n + 1) capn) v5 w1 := by
  obtain ⟨g, cap, e, o2, ne⟩ := h.op
  have blk : ∀ k, k < wr.heap.size → v4.ownBlock ≠ some k → w1.heap[k]? = wr.heap[k]? := fun k hk hne =>
    (hgrow.block k (by simp; omega) (fun e => hne e.symm)).trans (Below.heap_alloc _ _ _ hk)
  have hg : g < wr.heap.size := own_lt2 o2 g rfl
  have hf := lt_of_heap h.fault
  have nf : v4.ownBlock ≠ some w.heap.size := fun e => by have := own_ge h.out _ e; omega
  refine ⟨(blk _ hf nf).trans h.fault, hown1, ⟨g, cap, e, ownsRow_far' o2 (fun k hk => ?_), ?_⟩, ?_⟩
  · have : k = g := by simpa [Value.ownBlock] using hk.symm
    rw [this]
    exact blk g hg ne
  · simp only [Value.ownBlock]
    intro h2
    have h3 : gn = g := by simpa using h2
    rcases hat with h4 | h4
    · exact ne (by rw [h4, h3])
    · omega
  · exact h.below.trans (Below.grown ((Below.refl _ _).alloc h.below.size _) hgrow (by have := h.below.size; simp; omega) (fun k hk => by have := own_ge h.out k hk; omega))

theorem ro_push {w : World} {st : List Int} {ind : Int} {n : Nat} {tk : List Value} {v4 : Value} {wr w1 : World} {g cap gn capn : Nat} {o : Obj} (h : RO w st n tk v4 (.slice (some ⟨g, 0, none⟩) st.length cap) wr)
    (hown1 : w1.ownsRow (w.heap.size + 1) 3 1 (.slice (some ⟨gn, 0, none⟩) (st.length + 1) capn) (st.length + 1) (st.reverse.map (Value.int .i64) ++ [.int .i64 ind])) (hgrow : (wr.alloc o).grownBy w1 (some g)) (hat : g = gn ∨ gn = wr.heap.size + 1) :
    RO w (ind :: st) n tk v4 (.slice (some ⟨gn, 0, none⟩) (st.length + 1) capn) w1 := by
  obtain ⟨g', cap', e, o2, ne⟩ := h.op
  have hgg : g' = g := by simp at e; exact e.1.symm
  subst hgg
  have blk : ∀ k, k < wr.heap.size → g' ≠ k → w1.heap[k]? = wr.heap[k]? := fun k hk hne =>
    (hgrow.block k (by simp; omega) (fun e => hne (by simpa using e.symm))).trans (Below.heap_alloc _ _ _ hk)
  have hg : g' < wr.heap.size := own_lt2 o2 g' rfl
  have hgB := own_ge o2 g' rfl
  have hf := lt_of_heap h.fault
  refine ⟨(blk _ hf (by omega)).trans h.fault, ownsRow_far' h.out (fun k hk => blk k (own_lt2 h.out k hk) (fun e => ne (by rw [hk, e]))), ⟨gn, capn, by simp, ?_, ?_⟩, ?_⟩
  · simpa using hown1
  · rcases hat with h4 | h4
    · rw [← h4]; exact ne
    · intro h5
      have := own_lt2 h.out gn h5
      omega
  · exact h.below.trans (Below.grown ((Below.refl _ _).alloc h.below.size _) hgrow (by have := h.below.size; simp; omega) (fun k hk => by simp at hk; omega))

theorem ro_pop {w : World} {st : List Int} {x : Int} {n : Nat} {tk : List Value} {v4 : Value} {wr : World} {g cap : Nat} (h : RO w (x :: st) n tk v4 (.slice (some ⟨g, 0, none⟩) (st.length + 1) cap) wr) :
    RO w st n tk v4 (.slice (some ⟨g, 0, none⟩) st.length cap) wr := by
  obtain ⟨g', cap', e, o2, ne⟩ := h.op
  simp at e
  obtain ⟨rfl, rfl⟩ := e
  refine ⟨h.fault, h.out, ⟨g, cap, rfl, ⟨by simp, ?_⟩, ne⟩, h.below⟩
  rcases o2.2 with ⟨he, _⟩ | ⟨g', cap', cur, he, hB, hg, hle, hmax, hsz, htk⟩
  · cases he
  · simp at he
    obtain ⟨rfl, rfl⟩ := he
    refine .inr ⟨g, cap, cur, rfl, hB, hg, by simp at hle; omega, hmax, hsz, ?_⟩
    have e2 : (cur.toList.take ((st.length + 1) * 1)) = (x :: st).reverse.map (Value.int .i64) := by simpa using htk
    have e3 := congrArg (fun l => l.take st.length) e2
    simp only [List.take_take] at e3
    rw [Nat.min_eq_left (by omega)] at e3
    rw [Nat.mul_one, e3]
    simp
end Go.Proofs.YtpflpbfnifpchaaGreatDoor
