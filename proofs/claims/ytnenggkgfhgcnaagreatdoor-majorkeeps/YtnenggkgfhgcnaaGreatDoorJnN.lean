/- A memory of the program's, of one's own, that is written into: what it is then, exactly. -/
import Derived.Test.YtnenggkgfhgcnaaGreatDoorMemRF
import Derived.Test.YtnenggkgfhgcnaaGreatDoorMemRM
import Derived.Test.YtnenggkgfhgcnaaGreatDoorJnT
import Derived.Test.YtnenggkgfhgcnaaGreatDoorMemUT
namespace Go.Proofs.YtnenggkgfhgcnaaGreatDoor
open Go.RowKit

theorem own_setX {w : World} {base e n g cap j : Nat} {xs : List Value} {u : Value} (h : w.ownsRow base e 1 (.slice (some ⟨g, 0, none⟩) n cap) n xs) : (w.setCell ⟨g, j, none⟩ u).ownsRow base e 1 (.slice (some ⟨g, 0, none⟩) n cap) n (xs.set j u) := by
  obtain ⟨h1, h2⟩ := h
  rcases h2 with ⟨h2, _⟩ | ⟨g', cap', cur, e1, hb, hg, hc, hm, hs, ht⟩
  · cases h2
  · cases e1
    refine ⟨by rw [List.length_set]; exact h1, .inr ⟨g, cap, _, rfl, hb, heap_set_same hg, hc, hm, by simp [hs], ?_⟩⟩
    rw [Array.toList_setIfInBounds, List.take_set, ht]
theorem OwnP.below {B bx : Nat} {m : MD} {w w' : World} (h : OwnP B bx m w) (hb : Below w.heap.size w w') : OwnP B bx m w' := by
  obtain ⟨vW, vR, vK, vI, vC, h0, hO, r1, r2, r3, r4, r5, hr⟩ := h
  have f : ∀ k, k < w.heap.size → w'.heap[k]? = w.heap[k]? := hb.block
  exact ⟨vW, vR, vK, vI, vC, h0, (f bx (lt_of_heap hO)).trans hO, ownsRow_far' r1 (fun k hk => f k (own_lt2 r1 k hk).2), ownsRow_far' r2 (fun k hk => f k (own_lt2 r2 k hk).2), ownsRow_far' r3 (fun k hk => f k (own_lt2 r3 k hk).2), ownsRow_far' r4 (fun k hk => f k (own_lt2 r4 k hk).2), ownsRow_far' r5 (fun k hk => f k (own_lt2 r5 k hk).2), hr⟩
/-- The same, its rows named. -/
def OwnQ (B bx : Nat) (m : MD) (vW vR vK vI vC : Value) (w : World) : Prop := B ≤ bx ∧ OB 55 bx m.half m.old m.card vW m.used m.top m.oldTop vR vK vI vC w ∧ w.ownsRow B 50 1 vW m.W.length (wordsV m.W) ∧ w.ownsRow B 50 1 vR m.R.length (wordsV m.R) ∧ w.ownsRow B 50 1 vK m.K.length (wordsV m.K) ∧ w.ownsRow B 64 2 vI m.I.length (idsV m.I) ∧ w.ownsRow B 4 1 vC m.C.length (boolsV m.C) ∧
  (∀ v ∈ [vW, vR, vK, vI, vC], v.ownBlock ≠ some bx) ∧ (∀ v ∈ [vR, vK, vI, vC], ∀ g, vW.ownBlock = some g → v.ownBlock ≠ some g) ∧ (∀ v ∈ [vW, vR, vK, vI], ∀ g, vC.ownBlock = some g → v.ownBlock ≠ some g)
theorem OwnP.named {B bx : Nat} {m : MD} {w : World} (h : OwnP B bx m w) : ∃ vW vR vK vI vC, OwnQ B bx m vW vR vK vI vC w := h
theorem OwnQ.own {B bx : Nat} {m : MD} {vW vR vK vI vC : Value} {w : World} (h : OwnQ B bx m vW vR vK vI vC w) : OwnP B bx m w := ⟨vW, vR, vK, vI, vC, h⟩
theorem OwnQ.below {B bx : Nat} {m : MD} {vW vR vK vI vC : Value} {w w' : World} (h : OwnQ B bx m vW vR vK vI vC w) (hb : Below w.heap.size w w') : OwnQ B bx m vW vR vK vI vC w' := by
  obtain ⟨h0, hO, r1, r2, r3, r4, r5, hr⟩ := h
  have f : ∀ k, k < w.heap.size → w'.heap[k]? = w.heap[k]? := hb.block
  exact ⟨h0, (f bx (lt_of_heap hO)).trans hO, ownsRow_far' r1 (fun k hk => f k (own_lt2 r1 k hk).2), ownsRow_far' r2 (fun k hk => f k (own_lt2 r2 k hk).2), ownsRow_far' r3 (fun k hk => f k (own_lt2 r3 k hk).2), ownsRow_far' r4 (fun k hk => f k (own_lt2 r4 k hk).2), ownsRow_far' r5 (fun k hk => f k (own_lt2 r5 k hk).2), hr⟩
theorem OwnQ.mem {B bx : Nat} {m : MD} {vW vR vK vI vC : Value} {w : World} (h : OwnQ B bx m vW vR vK vI vC w) : MemAt bx m.half m.old m.card vW m.used m.top m.oldTop vR vK vI vC w := (OB.mem h.2.1).1
/-- A word is written. -/
def MD.setW (m : MD) (j : Nat) (x : Int) : MD := { m with W := m.W.set j x }
/-- A card is marked. -/
def MD.setC (m : MD) (j : Nat) (c : Bool) : MD := { m with C := m.C.set j c }
/-- The nursery's top is another. -/
def MD.setT (m : MD) (t : Int) : MD := { m with top := t }
theorem words_set (l : List Int) (j : Nat) (x : Int) : wordsV (l.set j x) = (wordsV l).set j (.int .u64 x) := by simp [wordsV, List.map_set]
theorem bools_set (l : List Bool) (j : Nat) (x : Bool) : boolsV (l.set j x) = (boolsV l).set j (.bool x) := by simp [boolsV, List.map_set]
theorem OwnQ.setW {B bx g cap n : Nat} {m : MD} {vR vK vI vC : Value} {w : World} (h : OwnQ B bx m (.slice (some ⟨g, 0, none⟩) n cap) vR vK vI vC w) (j : Nat) (x : Int) : OwnQ B bx (m.setW j x) (.slice (some ⟨g, 0, none⟩) n cap) vR vK vI vC (w.setCell ⟨g, j, none⟩ (.int .u64 x)) := by
  obtain ⟨h0, hO, r1, r2, r3, r4, r5, d1, d2, d3⟩ := h
  obtain rfl : n = m.W.length := by
    rcases r1.2 with ⟨e, _⟩ | ⟨_, _, _, e, _⟩
    · cases e
    · cases e; rfl
  have hne : ∀ v ∈ [vR, vK, vI, vC], ∀ k, v.ownBlock = some k → (w.setCell ⟨g, j, none⟩ (.int .u64 x)).heap[k]? = w.heap[k]? := fun v hv k hk => heap_set _ _ _ _ _ (fun e => d2 v hv g rfl (by rw [hk, e]))
  refine ⟨h0, (heap_set _ _ _ _ _ (fun e => d1 (.slice (some ⟨g, 0, none⟩) m.W.length cap) (by simp) (by rw [e]; rfl))).trans hO, ?_, ownsRow_far' r2 (hne vR (by simp)), ownsRow_far' r3 (hne vK (by simp)), ownsRow_far' r4 (hne vI (by simp)), ownsRow_far' r5 (hne vC (by simp)), d1, d2, d3⟩
  show (w.setCell ⟨g, j, none⟩ (.int .u64 x)).ownsRow B 50 1 _ (m.W.set j x).length (wordsV (m.W.set j x))
  rw [List.length_set, words_set]
  exact own_setX r1
theorem OwnQ.setC {B bx g cap n : Nat} {m : MD} {vR vK vI vW : Value} {w : World} (h : OwnQ B bx m vW vR vK vI (.slice (some ⟨g, 0, none⟩) n cap) w) (j : Nat) (x : Bool) : OwnQ B bx (m.setC j x) vW vR vK vI (.slice (some ⟨g, 0, none⟩) n cap) (w.setCell ⟨g, j, none⟩ (.bool x)) := by
  obtain ⟨h0, hO, r1, r2, r3, r4, r5, d1, d2, d3⟩ := h
  obtain rfl : n = m.C.length := by
    rcases r5.2 with ⟨e, _⟩ | ⟨_, _, _, e, _⟩
    · cases e
    · cases e; rfl
  have hne : ∀ v ∈ [vW, vR, vK, vI], ∀ k, v.ownBlock = some k → (w.setCell ⟨g, j, none⟩ (.bool x)).heap[k]? = w.heap[k]? := fun v hv k hk => heap_set _ _ _ _ _ (fun e => d3 v hv g rfl (by rw [hk, e]))
  refine ⟨h0, (heap_set _ _ _ _ _ (fun e => d1 (.slice (some ⟨g, 0, none⟩) m.C.length cap) (by simp) (by rw [e]; rfl))).trans hO, ownsRow_far' r1 (hne vW (by simp)), ownsRow_far' r2 (hne vR (by simp)), ownsRow_far' r3 (hne vK (by simp)), ownsRow_far' r4 (hne vI (by simp)), ?_, d1, d2, d3⟩
  show (w.setCell ⟨g, j, none⟩ (.bool x)).ownsRow B 4 1 _ (m.C.set j x).length (boolsV (m.C.set j x))
  rw [List.length_set, bools_set]
  exact own_setX r5
theorem OwnQ.setT {B bx : Nat} {m : MD} {vW vR vK vI vC : Value} {w : World} (h : OwnQ B bx m vW vR vK vI vC w) (t : Int) : OwnQ B bx (m.setT t) vW vR vK vI vC (w.setCell ⟨bx, 5, none⟩ (.int .i64 t)) := by
  obtain ⟨h0, hO, r1, r2, r3, r4, r5, d1, d2, d3⟩ := h
  have hne : ∀ v ∈ [vW, vR, vK, vI, vC], ∀ k, v.ownBlock = some k → (w.setCell ⟨bx, 5, none⟩ (.int .i64 t)).heap[k]? = w.heap[k]? := fun v hv k hk => heap_set _ _ _ _ _ (fun e => d1 v hv (by rw [hk, e]))
  exact ⟨h0, (heap_set_same hO).trans rfl, ownsRow_far' r1 (hne vW (by simp)), ownsRow_far' r2 (hne vR (by simp)), ownsRow_far' r3 (hne vK (by simp)), ownsRow_far' r4 (hne vI (by simp)), ownsRow_far' r5 (hne vC (by simp)), d1, d2, d3⟩
end Go.Proofs.YtnenggkgfhgcnaaGreatDoor

/- Package mem: Get and Put of a right memory, by contracts. -/
namespace Go.Proofs.YtnenggkgfhgcnaaGreatDoor
open Go.RowKit

/-- survey of a right memory. -/
theorem survey_right (a : Nat → Addr) (p : Nat) (m : MD) (vs : List Nat) (hS : m.Shape vs) (hC : m.cardsB = true) (h64 : MD64 m) (bR : m.R.length ≤ 300000) (bK : m.K.length ≤ 300000) (bI : m.I.length ≤ 300000) (w : World) (E : MErr3 a w) (R : RepP p m w) :
    Calls Tryz.prog 45 #[.pointer (some ⟨p, 0, none⟩)] w fun ev w' => ∃ bh, ev = .returned (.tuple #[.slice (some ⟨bh, 0, none⟩) m.W.length m.W.length, .nilIface]) ∧ HeadsAt w' bh m.W.length (fun i => decide (i ∈ vs)) ∧ bh < w'.heap.size ∧ Below w.heap.size w w' := by
  refine (survey_any3 a p m h64 bR bK bI w E R).mono ?_
  rintro ev w' ⟨hb, ⟨us, bh, hs, _, he, hm, _⟩ | ⟨us, _, hc, _⟩ | ⟨hno, _⟩⟩
  · have hu := hS.one hs
    subst hu
    obtain ⟨cur, h1, _⟩ := id hm
    exact ⟨bh, he, hm.heads, lt_of_heap h1, hb⟩
  · rw [hC] at hc; cases hc
  · exact absurd hS (hno vs)
theorem MD.range {m : MD} (h64 : MD64 m) : ∀ i, i < m.W.length → 0 ≤ m.F i ∧ m.F i < 18446744073709551616 := fun i hi => by
  unfold MD.F
  rw [List.getD_eq_getElem?_getD, List.getElem?_eq_getElem hi]
  exact h64.w _ (List.getElem_mem hi)
theorem MD.Shape.len {m : MD} {vs : List Nat} (S : m.Shape vs) : 0 < m.W.length ∧ m.W.length ≤ 300000 ∧ 0 < m.C.length := by
  have hnum := S.1.nums
  have hw := S.1.w
  have hc := S.1.c
  unfold numsOK at hnum
  have : 1 ≤ (m.old + m.card - 1) / m.card := (Int.le_ediv_iff_mul_le (by omega)).2 (by omega)
  omega
/-- A right memory of one's own: its words' row. -/
theorem OwnQ.rowW {B bx : Nat} {m : MD} {vW vR vK vI vC : Value} {w : World} (h : OwnQ B bx m vW vR vK vI vC w) (hl : 0 < m.W.length) : ∃ g cap, vW = .slice (some ⟨g, 0, none⟩) m.W.length cap ∧ m.W.length ≤ cap ∧ B ≤ g ∧ g < w.heap.size ∧ g ≠ bx ∧ (∀ i, i < m.W.length → w.cell? ⟨g, i, none⟩ = some (.int .u64 (m.F i))) ∧ (∀ i, w.frozen? ⟨g, i, none⟩ = false) ∧ ∃ cur t, w.heap[g]? = some (.cells cur t) := by
  obtain ⟨_, _, r1, _, _, _, _, d1, _, _⟩ := h
  have hr := row0_own r1
  rcases r1.2 with ⟨_, h0⟩ | ⟨g, cap, cur, rfl, hb, hg, hc, _, _, _⟩
  · omega
  · obtain ⟨_, _, e, _, hr⟩ := hr
    cases e
    obtain ⟨b, e, _, hw⟩ := hr hl
    cases e
    refine ⟨g, cap, rfl, hc, hb, lt_of_heap hg, fun e => d1 (.slice (some ⟨g, 0, none⟩) m.W.length cap) (by simp) (by rw [← e]; rfl), fun i hi => hw i _ (words_at (by unfold MD.F; rw [List.getD_eq_getElem?_getD, List.getElem?_eq_getElem hi]; rfl)), fun i => by simp [World.frozen?, hg], _, _, hg⟩
theorem OwnQ.seen {B bx bh g cap : Nat} {m : MD} {vs : List Nat} {vR vK vI vC : Value} {w : World} (h : OwnQ B bx m (.slice (some ⟨g, 0, none⟩) m.W.length cap) vR vK vI vC w) (S : m.Shape vs) (h64 : MD64 m) (hH : HeadsAt w bh m.W.length (fun i => decide (i ∈ vs))) (hbh : bh < w.heap.size) : Seen bx g bh m.W.length cap m.F (fun i => decide (i ∈ vs)) w := by
  obtain ⟨g', cap', e, hc, _, hg, _, hw, _, _⟩ := h.rowW S.len.1
  cases e
  exact ⟨S.len.2.1, hc, lt_of_cell h.mem.c0, hg, hbh, hH, h.mem.c3, hw, MD.range h64, fun f _ hf => S.fine f (of_decide_eq_true hf)⟩
/-- What Put makes of a memory. -/
def MD.put (m : MD) (y : Nat) (x : Int) : MD := if 2 * m.half ≤ (y : Int) ∧ youngB m.half x = true then (m.setW y x).setC (cardN m.half m.card y) true else m.setW y x
/-- What Mark makes of a memory. -/
def MD.mark (m : MD) (y : Nat) : MD := if 2 * m.half ≤ (y : Int) ∧ youngB m.half (m.F y) = true then m.setC (cardN m.half m.card y) true else m
end Go.Proofs.YtnenggkgfhgcnaaGreatDoor
