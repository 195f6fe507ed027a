/- A memory of the document's, of one's own; Own; FieldsOK of a right memory; append to nothing: by contracts. -/
import Derived.Test.YtnenggkgfhgcnaaGreatDoorJnF
namespace Go.Proofs.YtnenggkgfhgcnaaGreatDoor
open Go.RowKit

/-- A memory of the document's, of one's own, from block B on; its rows are named, and lie apart. -/
def OwnK (B bx : Nat) (m : MD) (vW vR vK vI vC : Value) (w : World) : Prop := B ≤ bx ∧ OB 30 bx m.half m.old m.card vW m.used m.top m.oldTop vR vK vI vC w ∧ w.ownsRow B 50 1 vW m.W.length (wordsV m.W) ∧ w.ownsRow B 50 1 vR m.R.length (wordsV m.R) ∧ w.ownsRow B 50 1 vK m.K.length (wordsV m.K) ∧ w.ownsRow B 61 2 vI m.I.length (idsV m.I) ∧ w.ownsRow B 4 1 vC m.C.length (boolsV m.C) ∧
  (∀ v ∈ [vW, vR, vK, vI, vC], v.ownBlock ≠ some bx) ∧ (∀ v ∈ [vR, vK, vI, vC], ∀ g, vW.ownBlock = some g → v.ownBlock ≠ some g) ∧ (∀ v ∈ [vW, vR, vK, vI], ∀ g, vC.ownBlock = some g → v.ownBlock ≠ some g)
theorem OwnK.below {B bx : Nat} {m : MD} {vW vR vK vI vC : Value} {w w' : World} (h : OwnK B bx m vW vR vK vI vC w) (hb : Below w.heap.size w w') : OwnK B bx m vW vR vK vI vC w' := by
  obtain ⟨h0, hO, r1, r2, r3, r4, r5, hr⟩ := h
  have f : ∀ k, k < w.heap.size → w'.heap[k]? = w.heap[k]? := hb.block
  exact ⟨h0, (f bx (lt_of_heap hO)).trans hO, ownsRow_far' r1 (fun k hk => f k (own_lt2 r1 k hk).2), ownsRow_far' r2 (fun k hk => f k (own_lt2 r2 k hk).2), ownsRow_far' r3 (fun k hk => f k (own_lt2 r3 k hk).2), ownsRow_far' r4 (fun k hk => f k (own_lt2 r4 k hk).2), ownsRow_far' r5 (fun k hk => f k (own_lt2 r5 k hk).2), hr⟩
theorem OwnK.mem {B bx : Nat} {m : MD} {vW vR vK vI vC : Value} {w : World} (h : OwnK B bx m vW vR vK vI vC w) : MemAt bx m.half m.old m.card vW m.used m.top m.oldTop vR vK vI vC w := (OB.mem h.2.1).1
theorem OwnK.setW {B bx g cap n : Nat} {m : MD} {vR vK vI vC : Value} {w : World} (h : OwnK B bx m (.slice (some ⟨g, 0, none⟩) n cap) vR vK vI vC w) (j : Nat) (x : Int) : OwnK B bx (m.setW j x) (.slice (some ⟨g, 0, none⟩) n cap) vR vK vI vC (w.setCell ⟨g, j, none⟩ (.int .u64 x)) := by
  obtain ⟨h0, hO, r1, r2, r3, r4, r5, d1, d2, d3⟩ := h
  obtain rfl : n = m.W.length := by
    rcases r1.2 with ⟨e, _⟩ | ⟨_, _, _, e, _⟩
    · cases e
    · cases e; rfl
  have hne : ∀ v ∈ [vR, vK, vI, vC], ∀ k, v.ownBlock = some k → (w.setCell ⟨g, j, none⟩ (.int .u64 x)).heap[k]? = w.heap[k]? := fun v hv k hk => heap_set _ _ _ _ _ (fun e => d2 v hv g rfl (by rw [hk, e]))
  refine ⟨h0, (heap_set _ _ _ _ _ (fun e => d1 (.slice (some ⟨g, 0, none⟩) m.W.length cap) (by simp) (by rw [e]; rfl))).trans hO, ?_, ownsRow_far' r2 (hne vR (by simp)), ownsRow_far' r3 (hne vK (by simp)), ownsRow_far' r4 (hne vI (by simp)), ownsRow_far' r5 (hne vC (by simp)), d1, d2, d3⟩
  show (w.setCell ⟨g, j, none⟩ (.int .u64 x)).ownsRow B 50 1 _ (m.W.set j x).length (wordsV (m.W.set j x))
  rw [List.length_set, words_set]
  exact own_setX r1
theorem OwnK.setC {B bx g cap n : Nat} {m : MD} {vR vK vI vW : Value} {w : World} (h : OwnK B bx m vW vR vK vI (.slice (some ⟨g, 0, none⟩) n cap) w) (j : Nat) (x : Bool) : OwnK B bx (m.setC j x) vW vR vK vI (.slice (some ⟨g, 0, none⟩) n cap) (w.setCell ⟨g, j, none⟩ (.bool x)) := by
  obtain ⟨h0, hO, r1, r2, r3, r4, r5, d1, d2, d3⟩ := h
  obtain rfl : n = m.C.length := by
    rcases r5.2 with ⟨e, _⟩ | ⟨_, _, _, e, _⟩
    · cases e
    · cases e; rfl
  have hne : ∀ v ∈ [vW, vR, vK, vI], ∀ k, v.ownBlock = some k → (w.setCell ⟨g, j, none⟩ (.bool x)).heap[k]? = w.heap[k]? := fun v hv k hk => heap_set _ _ _ _ _ (fun e => d3 v hv g rfl (by rw [hk, e]))
  refine ⟨h0, (heap_set _ _ _ _ _ (fun e => d1 (.slice (some ⟨g, 0, none⟩) m.C.length cap) (by simp) (by rw [e]; rfl))).trans hO, ownsRow_far' r1 (hne vW (by simp)), ownsRow_far' r2 (hne vR (by simp)), ownsRow_far' r3 (hne vK (by simp)), ownsRow_far' r4 (hne vI (by simp)), ?_, d1, d2, d3⟩
  show (w.setCell ⟨g, j, none⟩ (.bool x)).ownsRow B 4 1 _ (m.C.set j x).length (boolsV (m.C.set j x))
  rw [List.length_set, bools_set]
  exact own_setX r5
theorem OwnK.setT {B bx : Nat} {m : MD} {vW vR vK vI vC : Value} {w : World} (h : OwnK B bx m vW vR vK vI vC w) (t : Int) : OwnK B bx (m.setT t) vW vR vK vI vC (w.setCell ⟨bx, 5, none⟩ (.int .i64 t)) := by
  obtain ⟨h0, hO, r1, r2, r3, r4, r5, d1, d2, d3⟩ := h
  have hne : ∀ v ∈ [vW, vR, vK, vI, vC], ∀ k, v.ownBlock = some k → (w.setCell ⟨bx, 5, none⟩ (.int .i64 t)).heap[k]? = w.heap[k]? := fun v hv k hk => heap_set _ _ _ _ _ (fun e => d1 v hv (by rw [hk, e]))
  exact ⟨h0, (heap_set_same hO).trans rfl, ownsRow_far' r1 (hne vW (by simp)), ownsRow_far' r2 (hne vR (by simp)), ownsRow_far' r3 (hne vK (by simp)), ownsRow_far' r4 (hne vI (by simp)), ownsRow_far' r5 (hne vC (by simp)), d1, d2, d3⟩
theorem OwnK.rowW {B bx : Nat} {m : MD} {vW vR vK vI vC : Value} {w : World} (h : OwnK B bx m vW vR vK vI vC w) (hl : 0 < m.W.length) : ∃ g cap, vW = .slice (some ⟨g, 0, none⟩) m.W.length cap ∧ m.W.length ≤ cap ∧ B ≤ g ∧ g < w.heap.size ∧ g ≠ bx ∧ (∀ i, i < m.W.length → w.cell? ⟨g, i, none⟩ = some (.int .u64 (m.F i))) ∧ (∀ i, w.frozen? ⟨g, i, none⟩ = false) ∧ ∃ cur t, w.heap[g]? = some (.cells cur t) := by
  obtain ⟨_, _, r1, _, _, _, _, d1, _, _⟩ := h
  have hr := row0_own r1
  rcases r1.2 with ⟨_, h0⟩ | ⟨g, cap, cur, rfl, hb, hg, hc, _, _, _⟩
  · omega
  · obtain ⟨_, _, e, _, hr⟩ := hr
    cases e
    obtain ⟨b, e, _, hw⟩ := hr hl
    cases e
    refine ⟨g, cap, rfl, hc, hb, lt_of_heap hg, fun e => d1 (.slice (some ⟨g, 0, none⟩) m.W.length cap) (by simp) (by rw [← e]; rfl), fun i hi => hw i _ (words_at (by unfold MD.F; rw [List.getD_eq_getElem?_getD, List.getElem?_eq_getElem hi]; rfl)), fun i => by simp [World.frozen?, hg], _, _, hg⟩
theorem OwnK.rep {B bx : Nat} {m : MD} {vW vR vK vI vC : Value} {w : World} (h : OwnK B bx m vW vR vK vI vC w) : RepM bx 0 m w := by
  obtain ⟨_, hO, r1, r2, r3, r4, r5, _⟩ := h
  exact ⟨vW, vR, vK, vI, vC, lt_of_heap hO, (OB.mem hO).1.memO, rowV_own r1, rowV_own r2, rowV_own r3, rowV_own r4, rowV_own r5⟩
theorem OwnS.ownK {w0 : World} {bx : Nat} {m : MD} {vW vR vK vI vC : Value} {w : World} (S : OwnS 30 w0 bx m.half m.old m.card vW m.used m.top m.oldTop vR vK vI vC [(50, 1, vW, m.W.length, wordsV m.W), (50, 1, vR, m.R.length, wordsV m.R), (50, 1, vK, m.K.length, wordsV m.K), (61, 2, vI, m.I.length, idsV m.I), (4, 1, vC, m.C.length, boolsV m.C)] w) : OwnK w0.heap.size bx m vW vR vK vI vC w := by
  obtain ⟨h1, h2, h3, t1, q1, r1, t2, q2, r2, t3, q3, r3, t4, q4, r4, t5, q5, r5, _⟩ := S
  have lo : ∀ {lo hi e s n : Nat} {v : Value} {xs : List Value}, RowIn w lo hi e s v n xs → bx + 1 ≤ lo → v.ownBlock ≠ some bx := fun h hl e => by have := (own_lt2 h.1 bx e).1; omega
  refine ⟨h2, h3, ownsRow_lo r1.1 (by omega), ownsRow_lo r2.1 (by omega), ownsRow_lo r3.1 (by omega), ownsRow_lo r4.1 (by omega), ownsRow_lo r5.1 (by omega), ?_, ?_, ?_⟩
  · intro v hv
    simp only [List.mem_cons, List.not_mem_nil, or_false] at hv
    rcases hv with rfl | rfl | rfl | rfl | rfl
    · exact lo r1 (by omega)
    · exact lo r2 (by omega)
    · exact lo r3 (by omega)
    · exact lo r4 (by omega)
    · exact lo r5 (by omega)
  · intro v hv
    simp only [List.mem_cons, List.not_mem_nil, or_false] at hv
    rcases hv with rfl | rfl | rfl | rfl
    · exact rowIn_ne r1 r2 (by omega)
    · exact rowIn_ne r1 r3 (by omega)
    · exact rowIn_ne r1 r4 (by omega)
    · exact rowIn_ne r1 r5 (by omega)
  · intro v hv g hg e
    simp only [List.mem_cons, List.not_mem_nil, or_false] at hv
    rcases hv with rfl | rfl | rfl | rfl
    · exact rowIn_ne r1 r5 (by omega) g e hg
    · exact rowIn_ne r2 r5 (by omega) g e hg
    · exact rowIn_ne r3 r5 (by omega) g e hg
    · exact rowIn_ne r4 r5 (by omega) g e hg
end Go.Proofs.YtnenggkgfhgcnaaGreatDoor
