/- A memory of the program's, of one's own, that is written into: what it is then, exactly. -/
import Derived.Test.YtnenggkgfhgcnaaGreatDoorMemRF
import Derived.Test.YtnenggkgfhgcnaaGreatDoorMemRM
import Derived.Test.YtnenggkgfhgcnaaGreatDoorJnT
import Derived.Test.YtnenggkgfhgcnaaGreatDoorMemUT
namespace Go.Proofs.YtnenggkgfhgcnaaGreatDoor
open Go.RowKit

theorem own_setX {w : World} {base e n g cap j : Nat} {xs : List Value} {u : Value} (h : w.ownsRow base e 1 (.slice (some ⟨g, 0, none⟩) n cap) n xs) : (w.setCell ⟨g, j, none⟩ u).ownsRow base e 1 (.slice (some ⟨g, 0, none⟩) n cap) n (xs.set j u) := by
  obtain ⟨h1, h2⟩ := h
  rcases h2 with ⟨h2, _⟩ | ⟨g', cap', cur, e1, hb, hg, hc, hm, hs, ht⟩
  · cases h2
  · cases e1
    refine ⟨by rw [List.length_set]; exact h1, .inr ⟨g, cap, _, rfl, hb, heap_set_same hg, hc, hm, by simp [hs], ?_⟩⟩
    rw [Array.toList_setIfInBounds, List.take_set, ht]
theorem OwnP.below {B bx : Nat} {m : MD} {w w' : World} (h : OwnP B bx m w) (hb : Below w.heap.size w w') : OwnP B bx m w' := by
  obtain ⟨vW, vR, vK, vI, vC, h0, hO, r1, r2, r3, r4, r5, hr⟩ := h
  have f : ∀ k, k < w.heap.size → w'.heap[k]? = w.heap[k]? := hb.block
  exact ⟨vW, vR, vK, vI, vC, h0, (f bx (lt_of_heap hO)).trans hO, ownsRow_far' r1 (fun k hk => f k (own_lt2 r1 k hk).2), ownsRow_far' r2 (fun k hk => f k (own_lt2 r2 k hk).2), ownsRow_far' r3 (fun k hk => f k (own_lt2 r3 k hk).2), ownsRow_far' r4 (fun k hk => f k (own_lt2 r4 k hk).2), ownsRow_far' r5 (fun k hk => f k (own_lt2 r5 k hk).2), hr⟩
/-- The same, its rows named. -/
def OwnQ (B bx : Nat) (m : MD) (vW vR vK vI vC : Value) (w : World) : Prop := B ≤ bx ∧ OB 55 bx m.half m.old m.card vW m.used m.top m.oldTop vR vK vI vC w ∧ w.ownsRow B 50 1 vW m.W.length (wordsV m.W) ∧ w.ownsRow B 50 1 vR m.R.length (wordsV m.R) ∧ w.ownsRow B 50 1 vK m.K.length (wordsV m.K) ∧ w.ownsRow B 64 2 vI m.I.length (idsV m.I) ∧ w.ownsRow B 4 1 vC m.C.length (boolsV m.C) ∧
  (∀ v ∈ [vW, vR, vK, vI, vC], v.ownBlock ≠ some bx) ∧ (∀ v ∈ [vR, vK, vI, vC], ∀ g, vW.ownBlock = some g → v.ownBlock ≠ some g) ∧ (∀ v ∈ [vW, vR, vK, vI], ∀ g, vC.ownBlock = some g → v.ownBlock ≠ some g)
theorem OwnP.named {B bx : Nat} {m : MD} {w : World} (h : OwnP B bx m w) : ∃ vW vR vK vI vC, OwnQ B bx m vW vR vK vI vC w := h
theorem OwnQ.own {B bx : Nat} {m : MD} {vW vR vK vI vC : Value} {w : World} (h : OwnQ B bx m vW vR vK vI vC w) : OwnP B bx m w := ⟨vW, vR, vK, vI, vC, h⟩
theorem OwnQ.below {B bx : Nat} {m : MD} {vW vR vK vI vC : Value} {w w' : World} (h : OwnQ B bx m vW vR vK vI vC w) (hb : Below w.heap.size w w') : OwnQ B bx m vW vR vK vI vC w' := by
  obtain ⟨h0, hO, r1, r2, r3, r4, r5, hr⟩ := h
  have f : ∀ k, k < w.heap.size → w'.heap[k]? = w.heap[k]? := hb.block
  exact ⟨h0, (f bx (lt_of_heap hO)).trans hO, ownsRow_far' r1 (fun k hk => f k (own_lt2 r1 k hk).2), ownsRow_far' r2 (fun k hk => f k (own_lt2 r2 k hk).2), ownsRow_far' r3 (fun k hk => f k (own_lt2 r3 k hk).2), ownsRow_far' r4 (fun k hk => f k (own_lt2 r4 k hk).2), ownsRow_far' r5 (fun k hk => f k (own_lt2 r5 k hk).2), hr⟩
theorem OwnQ.mem {B bx : Nat} {m : MD} {vW vR vK vI vC : Value} {w : World} (h : OwnQ B bx m vW vR vK vI vC w) : MemAt bx m.half m.old m.card vW m.used m.top m.oldTop vR vK vI vC w := (OB.mem h.2.1).1
/-- A word is written. -/
def MD.setW (m : MD) (j : Nat) (x : Int) : MD := { m with W := m.W.set j x }
/-- A card is marked. -/
def MD.setC (m : MD) (j : Nat) (c : Bool) : MD := { m with C := m.C.set j c }
/-- The nursery's top is another. -/
def MD.setT (m : MD) (t : Int) : MD := { m with top := t }
theorem words_set (l : List Int) (j : Nat) (x : Int) : wordsV (l.set j x) = (wordsV l).set j (.int .u64 x) := by simp [wordsV, List.map_set]
theorem bools_set (l : List Bool) (j : Nat) (x : Bool) : boolsV (l.set j x) = (boolsV l).set j (.bool x) := by simp [boolsV, List.map_set]
theorem OwnQ.setW {B bx g cap n : Nat} {m : MD} {vR vK vI vC : Value} {w : World} (h : OwnQ B bx m (.slice (some ⟨g, 0, none⟩) n cap) vR vK vI vC w) (j : Nat) (x : Int) : OwnQ B bx (m.setW j x) (.slice (some ⟨g, 0, none⟩) n cap) vR vK vI vC (w.setCell ⟨g, j, none⟩ (.int .u64 x)) := by
  obtain ⟨h0, hO, r1, r2, r3, r4, r5, d1, d2, d3⟩ := h
  obtain rfl : n = m.W.length := by
    rcases r1.2 with ⟨e, _⟩ | ⟨_, _, _, e, _⟩
    · cases e
    · cases e; rfl
  have hne : ∀ v ∈ [vR, vK, vI, vC], ∀ k, v.ownBlock = some k → (w.setCell ⟨g, j, none⟩ (.int .u64 x)).heap[k]? = w.heap[k]? := fun v hv k hk => heap_set _ _ _ _ _ (fun e => d2 v hv g rfl (by rw [hk, e]))
  refine ⟨h0, (heap_set _ _ _ _ _ (fun e => d1 (.slice (some ⟨g, 0, none⟩) m.W.length cap) (by simp) (by rw [e]; rfl))).trans hO, ?_, ownsRow_far' r2 (hne vR (by simp)), ownsRow_far' r3 (hne vK (by simp)), ownsRow_far' r4 (hne vI (by simp)), ownsRow_far' r5 (hne vC (by simp)), d1, d2, d3⟩
  show (w.setCell ⟨g, j, none⟩ (.int .u64 x)).ownsRow B 50 1 _ (m.W.set j x).length (wordsV (m.W.set j x))
  rw [List.length_set, words_set]
  exact own_setX r1
theorem OwnQ.setC {B bx g cap n : Nat} {m : MD} {vR vK vI vW : Value} {w : World} (h : OwnQ B bx m vW vR vK vI (.slice (some ⟨g, 0, none⟩) n cap) w) (j : Nat) (x : Bool) : OwnQ B bx (m.setC j x) vW vR vK vI (.slice (some ⟨g, 0, none⟩) n cap) (w.setCell ⟨g, j, none⟩ (.bool x)) := by
  obtain ⟨h0, hO, r1, r2, r3, r4, r5, d1, d2, d3⟩ := h
  obtain rfl : n = m.C.length := by
    rcases r5.2 with ⟨e, _⟩ | ⟨_, _, _, e, _⟩
    · cases e
    · cases e; rfl
  have hne : ∀ v ∈ [vW, vR, vK, vI], ∀ k, v.ownBlock = some k → (w.setCell ⟨g, j, none⟩ (.bool x)).heap[k]? = w.heap[k]? := fun v hv k hk => heap_set _ _ _ _ _ (fun e => d3 v hv g rfl (by rw [hk, e]))
  refine ⟨h0, (heap_set _ _ _ _ _ (fun e => d1 (.slice (some ⟨g, 0, none⟩) m.C.length cap) (by simp) (by rw [e]; rfl))).trans hO, ownsRow_far' r1 (hne vW (by simp)), ownsRow_far' r2 (hne vR (by simp)), ownsRow_far' r3 (hne vK (by simp)), ownsRow_far' r4 (hne vI (by simp)), ?_, d1, d2, d3⟩
  show (w.setCell ⟨g, j, none⟩ (.bool x)).ownsRow B 4 1 _ (m.C.set j x).length (boolsV (m.C.set j x))
  rw [List.length_set, bools_set]
  exact own_setX r5
theorem OwnQ.setT {B bx : Nat} {m : MD} {vW vR vK vI vC : Value} {w : World} (h : OwnQ B bx m vW vR vK vI vC w) (t : Int) : OwnQ B bx (m.setT t) vW vR vK vI vC (w.setCell ⟨bx, 5, none⟩ (.int .i64 t)) := by
  obtain ⟨h0, hO, r1, r2, r3, r4, r5, d1, d2, d3⟩ := h
  have hne : ∀ v ∈ [vW, vR, vK, vI, vC], ∀ k, v.ownBlock = some k → (w.setCell ⟨bx, 5, none⟩ (.int .i64 t)).heap[k]? = w.heap[k]? := fun v hv k hk => heap_set _ _ _ _ _ (fun e => d1 v hv (by rw [hk, e]))
  exact ⟨h0, (heap_set_same hO).trans rfl, ownsRow_far' r1 (hne vW (by simp)), ownsRow_far' r2 (hne vR (by simp)), ownsRow_far' r3 (hne vK (by simp)), ownsRow_far' r4 (hne vI (by simp)), ownsRow_far' r5 (hne vC (by simp)), d1, d2, d3⟩
theorem setW_same {m : MD} {j : Nat} (h : j < m.W.length) : m.setW j (m.F j) = m := by
  unfold MD.setW MD.F
  rw [List.getD_eq_getElem?_getD, List.getElem?_eq_getElem h]
  show ({ m with W := m.W.set j m.W[j] } : MD) = m
  rw [List.set_getElem_self]
theorem setC_same {m : MD} {j : Nat} (h : m.Cf j = true) : m.setC j true = m := by
  unfold MD.Cf at h
  by_cases hj : j < m.C.length
  · rw [List.getD_eq_getElem?_getD, List.getElem?_eq_getElem hj] at h
    unfold MD.setC
    have h' : m.C[j] = true := h
    rw [← h', List.set_getElem_self]
  · unfold MD.setC
    rw [List.set_eq_of_length_le (by omega)]
end Go.Proofs.YtnenggkgfhgcnaaGreatDoor

/- Package mem: Get and Put of a right memory, by contracts. -/
namespace Go.Proofs.YtnenggkgfhgcnaaGreatDoor
open Go.RowKit

/-- survey of a right memory. -/
theorem survey_right (a : Nat → Addr) (p : Nat) (m : MD) (vs : List Nat) (hS : m.Shape vs) (hC : m.cardsB = true) (h64 : MD64 m) (bR : m.R.length ≤ 300000) (bK : m.K.length ≤ 300000) (bI : m.I.length ≤ 300000) (w : World) (E : MErr3 a w) (R : RepP p m w) :
    Calls Tryz.prog 45 #[.pointer (some ⟨p, 0, none⟩)] w fun ev w' => ∃ bh, ev = .returned (.tuple #[.slice (some ⟨bh, 0, none⟩) m.W.length m.W.length, .nilIface]) ∧ HeadsAt w' bh m.W.length (fun i => decide (i ∈ vs)) ∧ bh < w'.heap.size ∧ Below w.heap.size w w' := by
  refine (survey_any3 a p m h64 bR bK bI w E R).mono ?_
  rintro ev w' ⟨hb, ⟨us, bh, hs, _, he, hm, _⟩ | ⟨us, _, hc, _⟩ | ⟨hno, _⟩⟩
  · have hu := hS.one hs
    subst hu
    obtain ⟨cur, h1, _⟩ := id hm
    exact ⟨bh, he, hm.heads, lt_of_heap h1, hb⟩
  · rw [hC] at hc; cases hc
  · exact absurd hS (hno vs)
theorem MD.range {m : MD} (h64 : MD64 m) : ∀ i, i < m.W.length → 0 ≤ m.F i ∧ m.F i < 18446744073709551616 := fun i hi => by
  unfold MD.F
  rw [List.getD_eq_getElem?_getD, List.getElem?_eq_getElem hi]
  exact h64.w _ (List.getElem_mem hi)
theorem MD.Shape.len {m : MD} {vs : List Nat} (S : m.Shape vs) : 0 < m.W.length ∧ m.W.length ≤ 300000 ∧ 0 < m.C.length := by
  have hnum := S.1.nums
  have hw := S.1.w
  have hc := S.1.c
  unfold numsOK at hnum
  have : 1 ≤ (m.old + m.card - 1) / m.card := (Int.le_ediv_iff_mul_le (by omega)).2 (by omega)
  omega
theorem heap_setSame {w : World} {g j : Nat} {v : Value} {cur : Array Value} {t : TypeId} (hg : w.heap[g]? = some (.cells cur t)) (hj : cur[j]? = some v) (k : Nat) : (w.setCell ⟨g, j, none⟩ v).heap[k]? = w.heap[k]? := by
  by_cases e : k = g
  · subst e
    rw [heap_set_same hg, hg]
    have : cur.setIfInBounds j v = cur := by
      apply Array.ext_getElem?
      intro i
      rw [Array.getElem?_setIfInBounds]
      split
      · rename_i e
        subst e
        rw [hj]
        have := (Array.getElem?_eq_some_iff.1 hj).1
        rw [if_pos this]
      · rfl
    rw [this]
  · exact heap_set _ _ _ _ _ e
theorem below_setSame {B g j : Nat} {w w' : World} {v : Value} {cur : Array Value} {t : TypeId} (h : Below B w w') (hg : w'.heap[g]? = some (.cells cur t)) (hc : w'.cell? ⟨g, j, none⟩ = some v) : Below B w (w'.setCell ⟨g, j, none⟩ v) := by
  have z : Below 0 w' (w'.setCell ⟨g, j, none⟩ v) := (Below.refl 0 w').setCell (Nat.zero_le _) v
  have hj : cur[j]? = some v := by rw [cell_of_row _ _ _ _ _ _ hg] at hc; exact hc
  exact ⟨z.os.trans h.os, z.tape.trans h.tape, z.output.trans h.output, Nat.le_trans h.size z.size, fun k hk => (heap_setSame hg hj k).trans (h.block k hk)⟩
/-- A right memory of one's own: its words' row. -/
theorem OwnQ.rowW {B bx : Nat} {m : MD} {vW vR vK vI vC : Value} {w : World} (h : OwnQ B bx m vW vR vK vI vC w) (hl : 0 < m.W.length) : ∃ g cap, vW = .slice (some ⟨g, 0, none⟩) m.W.length cap ∧ m.W.length ≤ cap ∧ B ≤ g ∧ g < w.heap.size ∧ g ≠ bx ∧ (∀ i, i < m.W.length → w.cell? ⟨g, i, none⟩ = some (.int .u64 (m.F i))) ∧ (∀ i, w.frozen? ⟨g, i, none⟩ = false) ∧ ∃ cur t, w.heap[g]? = some (.cells cur t) := by
  obtain ⟨_, _, r1, _, _, _, _, d1, _, _⟩ := h
  have hr := row0_own r1
  rcases r1.2 with ⟨_, h0⟩ | ⟨g, cap, cur, rfl, hb, hg, hc, _, _, _⟩
  · omega
  · obtain ⟨_, _, e, _, hr⟩ := hr
    cases e
    obtain ⟨b, e, _, hw⟩ := hr hl
    cases e
    refine ⟨g, cap, rfl, hc, hb, lt_of_heap hg, fun e => d1 (.slice (some ⟨g, 0, none⟩) m.W.length cap) (by simp) (by rw [← e]; rfl), fun i hi => hw i _ (words_at (by unfold MD.F; rw [List.getD_eq_getElem?_getD, List.getElem?_eq_getElem hi]; rfl)), fun i => by simp [World.frozen?, hg], _, _, hg⟩
theorem OwnQ.rowC {B bx : Nat} {m : MD} {vW vR vK vI vC : Value} {w : World} (h : OwnQ B bx m vW vR vK vI vC w) (hl : 0 < m.C.length) : ∃ g cap, vC = .slice (some ⟨g, 0, none⟩) m.C.length cap ∧ m.C.length ≤ cap ∧ B ≤ g ∧ g < w.heap.size ∧ g ≠ bx ∧ (∀ i, i < m.C.length → w.cell? ⟨g, i, none⟩ = some (.bool (m.Cf i))) ∧ (∀ i, w.frozen? ⟨g, i, none⟩ = false) ∧ ∃ cur t, w.heap[g]? = some (.cells cur t) := by
  obtain ⟨_, _, _, _, _, _, r5, d1, _, _⟩ := h
  have hr := row0_own r5
  rcases r5.2 with ⟨_, h0⟩ | ⟨g, cap, cur, rfl, hb, hg, hc, _, _, _⟩
  · omega
  · obtain ⟨_, _, e, _, hr⟩ := hr
    cases e
    obtain ⟨b, e, _, hw⟩ := hr hl
    cases e
    refine ⟨g, cap, rfl, hc, hb, lt_of_heap hg, fun e => d1 (.slice (some ⟨g, 0, none⟩) m.C.length cap) (by simp) (by rw [← e]; rfl), fun i hi => hw i _ (bools_at (by unfold MD.Cf; rw [List.getD_eq_getElem?_getD, List.getElem?_eq_getElem hi]; rfl)), fun i => by simp [World.frozen?, hg], _, _, hg⟩
theorem OwnQ.seen {B bx bh g cap : Nat} {m : MD} {vs : List Nat} {vR vK vI vC : Value} {w : World} (h : OwnQ B bx m (.slice (some ⟨g, 0, none⟩) m.W.length cap) vR vK vI vC w) (S : m.Shape vs) (h64 : MD64 m) (hH : HeadsAt w bh m.W.length (fun i => decide (i ∈ vs))) (hbh : bh < w.heap.size) : Seen bx g bh m.W.length cap m.F (fun i => decide (i ∈ vs)) w := by
  obtain ⟨g', cap', e, hc, _, hg, _, hw, _, _⟩ := h.rowW S.len.1
  cases e
  exact ⟨S.len.2.1, hc, lt_of_cell h.mem.c0, hg, hbh, hH, h.mem.c3, hw, MD.range h64, fun f _ hf => S.fine f (of_decide_eq_true hf)⟩
/-- What Put makes of a memory. -/
def MD.put (m : MD) (y : Nat) (x : Int) : MD := if 2 * m.half ≤ (y : Int) ∧ youngB m.half x = true then (m.setW y x).setC (cardN m.half m.card y) true else m.setW y x
/-- What Mark makes of a memory. -/
def MD.mark (m : MD) (y : Nat) : MD := if 2 * m.half ≤ (y : Int) ∧ youngB m.half (m.F y) = true then m.setC (cardN m.half m.card y) true else m
theorem setW_F {m : MD} {y : Nat} {x : Int} (h : y < m.W.length) : (m.setW y x).F y = x := by
  unfold MD.F MD.setW
  show (m.W.set y x).getD y 0 = x
  rw [List.getD_eq_getElem?_getD, List.getElem?_set_self h]
  rfl
theorem put_mark {m : MD} {y : Nat} {x : Int} (h : y < m.W.length) : m.put y x = (m.setW y x).mark y := by
  unfold MD.put MD.mark
  rw [setW_F h]
  rfl
set_option maxHeartbeats 4000000 in
set_option maxRecDepth 100000 in
theorem mark_any (a : Nat → Addr) (w0 : World) (bx g cap : Nat) (m : MD) (vR vK vI vC : Value) (hF : m.FitsM) (hlc : 0 < m.C.length) (y : Nat) (hyl : y < m.W.length) (x : Int) (hx : m.F y = x) (x0 : 0 ≤ x) (x1 : x < 18446744073709551616) (w : World) (E : WErr a w) (hb0 : Below w0.heap.size w0 w) (Q : OwnQ w0.heap.size bx m (.slice (some ⟨g, 0, none⟩) m.W.length cap) vR vK vI vC w) :
    Calls Tryz.prog 101 #[.pointer (some ⟨bx, 0, none⟩), .int .i64 (y : Int)] w fun ev w' => ev = .returned (.tuple #[]) ∧ OwnP w0.heap.size bx (m.mark y) w' ∧ Below w0.heap.size w0 w' ∧ ((2 * m.half ≤ (y : Int) → youngB m.half x = true → m.Cf (cardN m.half m.card y) = true) → Below w.heap.size w w') := by
  have hnum := hF.nums
  unfold numsOK at hnum
  have hw := hF.w
  have hy3 : y ≤ 300000 := by omega
  obtain ⟨g', cap', e, _, _, _, _, hwd, _, _⟩ := Q.rowW (by omega)
  cases e
  have dy := hwd y hyl
  rw [hx] at dy
  obtain ⟨gc, cc, rfl, hcc, hBc, hgc, _, hwc, hfc, cur, tc, hcur⟩ := Q.rowC hlc
  have M := Q.mem
  have c0 : w.cell? ⟨bx, 0, none⟩ = some (.int .i64 m.half) := M.c0
  have c3 := M.c3
  have km : Hid (∀ q, Calls Tryz.prog 73 #[.pointer (some ⟨bx, 0, none⟩)] (w.drewN q) fun ev w' => ev = .returned (.bool true) ∧ ∃ n, w' = (w.drewN q).drewN n) := fun q => measured_ok bx m.half m.old m.card m.W.length m.C.length cap cc _ _ m.used m.top m.oldTop _ _ _ hF (w.drewN q) (M.below (below_drewN (Below.refl _ _)) (lt_of_cell c0))
  have ko : Hid (∀ q, Calls Tryz.prog 43 #[.pointer (some ⟨bx, 0, none⟩)] (w.drewN q) fun ev w' => ev = .returned (.int .i64 (2 * m.half)) ∧ w' = w.drewN q) := fun q => oldFrom_any bx m.half (by omega) (by omega) (w.drewN q) c0
  have ky : Hid (∀ q, Calls Tryz.prog 108 #[.pointer (some ⟨bx, 0, none⟩), .int .u64 x] (w.drewN q) fun ev w' => ev = .returned (.bool (youngB m.half x)) ∧ ∃ n, w' = (w.drewN q).drewN n) := fun q => young_any a bx m.half x (by omega) (by omega) x0 x1 (w.drewN q) (E.below (below_drewN (Below.refl _ _))) c0
  have kw : Hid (∀ W, Calls Tryz.prog 72 #[.int .i64 (y : Int), .int .i64 (2 * m.half), .int .i64 ((m.W.length : Int) - 1)] W fun ev w' => ev = .returned (.bool (decide (2 * m.half ≤ (y : Int)))) ∧ w' = W) := fun W => by
    have h := mwithin_any (y : Int) (2 * m.half) ((m.W.length : Int) - 1) W
    rw [decide_eq_true (show (y : Int) ≤ (m.W.length : Int) - 1 by omega), Bool.and_true] at h
    exact h
  have e1 : IntKind.i64.wrap ((m.W.length : Int) - 1) = (m.W.length : Int) - 1 := wrapI _ (by omega) (by omega)
  have hI : (y : Int) < (m.W.length : Int) := by omega
  have hI0 : (0 : Int) ≤ (y : Int) := by omega
  have HQ := toHid Q
  have HB0 := toHid hb0
  have HX := toHid hx
  clear Q M E hb0 hwd hx hw
  by_cases hold : 2 * m.half ≤ (y : Int)
  · rw [decide_eq_true hold] at kw
    cases hyo : youngB m.half x with
    | true =>
      rw [hyo] at ky
      have HPU : Hid (m.mark y = m.setC (cardN m.half m.card y) true) := by show _ = _; unfold MD.mark; rw [if_pos ⟨hold, by rw [HX.out]; exact hyo⟩]
      clear hyo
      obtain ⟨d, j, hd, hj, hjl, hcn⟩ := card_ix hF hold hyl
      have d2 : w.cell? ⟨bx, 2, none⟩ = some (.int .i64 m.card) := HQ.out.mem.c2
      have d10 : w.cell? ⟨bx, 10, none⟩ = some (.slice (some ⟨gc, 0, none⟩) m.C.length cc) := HQ.out.mem.c10
      have dj : w.cell? ⟨gc, j, none⟩ = some (.bool (m.Cf j)) := hwc j hjl
      have dfj := hfc j
      have hJ : (j : Int) < (m.C.length : Int) := by omega
      have hJ0 : (0 : Int) ≤ (j : Int) := by omega
      obtain ⟨cj, hcj⟩ : ∃ cj, cj = m.Cf j := ⟨_, rfl⟩
      rw [← hcj] at dj
      have HCJ : Hid (m.Cf (cardN m.half m.card y) = true → cj = true) := fun h => by rw [hcj, ← hcn]; exact h
      have HCN := toHid hcn
      have HCUR := toHid hcur
      have kc : Hid (∀ W, Below w.heap.size w W → Calls Tryz.prog 99 #[.pointer (some ⟨bx, 0, none⟩), .int .i64 (y : Int)] W fun ev w' => ev = .returned (.int .i64 (j : Int)) ∧ ∃ n, w' = W.drewN n) := fun W hW => cardOf_any bx m.half m.card y d j (by omega) (by omega) (by omega) hy3 hd hj W ((hW.cell (p := ⟨bx, 0, none⟩) (lt_of_cell c0)).trans c0) ((hW.cell (p := ⟨bx, 2, none⟩) (lt_of_cell d2)).trans d2)
      clear hd hj hcn hcj hcur hwc hfc
      go_enter Tryz.func101, Tryz.ntmps101
      go_wp2_with fail
      go_quiet (first | (go_at_call 73; exact Calls.quiet_of (km.out _)) | (go_at_call 43; exact Calls.quiet_of_same (ko.out _)) | (go_at_call 72; exact Calls.quiet_of_same (kw.out _)) | (go_at_call 108; exact Calls.quiet_of (ky.out _)))
      go_upto_region 1 with fail
      obtain ⟨w5, hw5⟩ : ∃ w5, w5 = w.drewN nq := ⟨_, rfl⟩
      rw [← hw5]
      have hb5 : Below w.heap.size w w5 := by rw [hw5]; exact below_drewN (Below.refl _ _)
      have d10 : w5.cell? ⟨bx, 10, none⟩ = some (.slice (some ⟨gc, 0, none⟩) m.C.length cc) := (hb5.cell (p := ⟨bx, 10, none⟩) (lt_of_cell d10)).trans d10
      have dj5 : w5.cell? ⟨gc, j, none⟩ = some (.bool cj) := (hb5.cell (p := ⟨gc, j, none⟩) (lt_of_cell dj)).trans dj
      have df5 := (hb5.frozen (p := ⟨gc, j, none⟩) (lt_of_cell dj)).trans dfj
      have ldj := lt_of_cell dj5
      have ld10 := lt_of_cell d10
      have HC5 : Hid (w5.heap[gc]? = some (.cells cur tc)) := (hb5.block gc (lt_of_cell dj)).trans HCUR.out
      have kc : Hid (∀ W, Below w5.heap.size w5 W → Calls Tryz.prog 99 #[.pointer (some ⟨bx, 0, none⟩), .int .i64 (y : Int)] W fun ev w' => ev = .returned (.int .i64 (j : Int)) ∧ Below w5.heap.size w5 w') := fun W hW => by
        refine (kc.out W (hb5.trans (hW.mono hb5.size))).mono ?_
        rintro ev w9 ⟨rfl, n, hq⟩
        exact ⟨rfl, by rw [hq]; exact below_drewN hW⟩
      have HB5 := toHid hb5
      clear hw5 hb5 c0 c3 dy dj dfj d2
      go_region_with ((go_at_call 99; refine (kc.out _ (by first | exact (Below.refl _ _).drew | exact Below.refl _ _)).mono ?_; rintro ev w7 ⟨rfl, hb7⟩; have t10 := (hb7.cell (p := ⟨bx, 10, none⟩) ld10).trans d10; have tj := (hb7.cell (p := ⟨gc, j, none⟩) ldj).trans dj5; have tf := (hb7.frozen (p := ⟨gc, j, none⟩) ldj).trans df5))
      all_goals go_wp2_with fail
      all_goals go_end0
      all_goals (
        have Q7 := ((HQ.out.below HB5.out).below hb7).setC j true
        have hB7 : Below w0.heap.size w0 (w7.setCell ⟨gc, j, none⟩ (.bool true)) := ((HB0.out.trans (HB5.out.mono HB0.out.size)).trans (hb7.mono (HB0.out.trans (HB5.out.mono HB0.out.size)).size)).setCell hBc _
        have hS7 : cj = true → Below w.heap.size w (w7.setCell ⟨gc, j, none⟩ (.bool true)) := fun h => below_setSame (HB5.out.trans (hb7.mono HB5.out.size)) ((hb7.block gc ldj).trans HC5.out) (by rw [tj, h])
        refine ⟨rfl, ?_, ?_, ?_⟩
        · rw [HPU.out, HCN.out]; first | exact Q7.own | exact Q7.own.below (Below.refl _ _).drew
        · first | exact hB7 | exact hB7.drew
        · first | exact fun h => hS7 (HCJ.out (h hold trivial)) | exact fun h => (hS7 (HCJ.out (h hold trivial))).drew)
    | false =>
      rw [hyo] at ky
      have HPU : Hid (m.mark y = m) := by show _ = _; unfold MD.mark; rw [if_neg (fun h => by rw [HX.out, hyo] at h; cases h.2)]
      clear hyo
      go_enter Tryz.func101, Tryz.ntmps101
      go_wp2_with fail
      go_quiet (first | (go_at_call 73; exact Calls.quiet_of (km.out _)) | (go_at_call 43; exact Calls.quiet_of_same (ko.out _)) | (go_at_call 72; exact Calls.quiet_of_same (kw.out _)) | (go_at_call 108; exact Calls.quiet_of (ky.out _)))
      go_wp2_with fail
      go_end0
      have hb5 : Below w.heap.size w (w.drewN nq) := below_drewN (Below.refl _ _)
      exact ⟨rfl, by rw [HPU.out]; exact HQ.out.own.below hb5, HB0.out.trans (hb5.mono HB0.out.size), fun _ => hb5⟩
  · rw [decide_eq_false hold] at kw
    have HPU : Hid (m.mark y = m) := by show _ = _; unfold MD.mark; rw [if_neg (fun h => hold h.1)]
    go_enter Tryz.func101, Tryz.ntmps101
    go_wp2_with fail
    go_quiet (first | (go_at_call 73; exact Calls.quiet_of (km.out _)) | (go_at_call 43; exact Calls.quiet_of_same (ko.out _)) | (go_at_call 72; exact Calls.quiet_of_same (kw.out _)) | (go_at_call 108; exact Calls.quiet_of (ky.out _)))
    go_wp2_with fail
    go_end0
    have hb5 : Below w.heap.size w (w.drewN nq) := below_drewN (Below.refl _ _)
    exact ⟨rfl, by rw [HPU.out]; exact HQ.out.own.below hb5, HB0.out.trans (hb5.mono HB0.out.size), fun _ => hb5⟩
end Go.Proofs.YtnenggkgfhgcnaaGreatDoor
