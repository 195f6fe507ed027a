/- codeOf, by a walk. -/
import Derived.Test.YtgpfjlejmcdpmaaDoorCodY
namespace Go.Proofs.YtgpfjlejmcdpmaaDoor
open Go.RowKit

theorem codeOf_results (tmps : Array Value) (W : World) (b : Nat) (v0 v1 v2 v3 : Value) (h2 : tmps[2]?.getD undef = .pointer (some ⟨b, 0, none⟩)) (c0 : W.cell? ⟨b, 0, none⟩ = some v0) (c1 : W.cell? ⟨b, 1, none⟩ = some v1) (c2 : W.cell? ⟨b, 2, none⟩ = some v2) (c3 : W.cell? ⟨b, 3, none⟩ = some v3) :
    (results Tryd.f8 tmps).run Tryd.prog W = .ok (.agg #[v0, v1, v2, v3]) W := by
  simp [results, Tryd.results8, go_sem, h2, c0, c1, c2, c3]
set_option maxRecDepth 100000 in
theorem info_op : ∃ i, Tryd.prog.info? 41 = some i ∧ i.zero = some (.agg #[.string ⟨#[]⟩, .int .i64 0]) ∧ i.size = 2 ∧ i.bytes = 24 := by
  refine ⟨(Tryd.prog.info? 41).get (by kernel_rfl), (Option.some_get _).symm, ?_, ?_, ?_⟩ <;> kernel_rfl
set_option maxRecDepth 100000 in
theorem info_i64 : ∃ i, Tryd.prog.info? 2 = some i ∧ i.zero = some (.int .i64 0) ∧ i.size = 1 ∧ i.bytes = 8 := by
  refine ⟨(Tryd.prog.info? 2).get (by kernel_rfl), (Option.some_get _).symm, ?_, ?_, ?_⟩ <;> kernel_rfl
set_option maxRecDepth 100000 in
theorem info_str : ∃ i, Tryd.prog.info? 9 = some i ∧ i.zero = some (.string ⟨#[]⟩) ∧ i.size = 1 ∧ i.bytes = 16 := by
  refine ⟨(Tryd.prog.info? 9).get (by kernel_rfl), (Option.some_get _).symm, ?_, ?_, ?_⟩ <;> kernel_rfl
set_option maxRecDepth 100000 in
theorem info_func : ∃ i, Tryd.prog.info? 39 = some i ∧ i.zero = some (.agg #[.string ⟨#[]⟩, .int .i64 0, .int .i64 0, .int .i64 0, .int .i64 0, .slice none 0 0]) ∧ i.size = 6 ∧ i.bytes = 72 := by
  refine ⟨(Tryd.prog.info? 39).get (by kernel_rfl), (Option.some_get _).symm, ?_, ?_, ?_⟩ <;> kernel_rfl
/-- The cells of a row, listed. -/
def rowC (n : Nat) (v : Nat → Value) : List Value := (List.range n).map v
theorem rowC_len (n : Nat) (v : Nat → Value) : (rowC n v).length = n * 1 := by simp [rowC]
theorem rowC_at {n i : Nat} {v : Nat → Value} (h : i < n) : (rowC n v)[i]? = some (v i) := by simp [rowC, h]
theorem rowC_in {w : World} {a : Option Addr} {n : Nat} {v : Nat → Value} (h : RowIn w a n v) : 0 < n → ∃ ad, a = some ad ∧ ∀ j u, (rowC n v)[j]? = some u → w.cell? (ad.add j) = some u := fun h0 => by
  obtain ⟨b, o, e, _⟩ := h 0 h0
  refine ⟨⟨b, o, none⟩, e, fun j u hj => ?_⟩
  have hjn : j < n := by
    have := (List.getElem?_eq_some_iff.1 hj).1
    simpa [rowC] using this
  rw [rowC_at hjn] at hj
  cases hj
  obtain ⟨b', o', e', x⟩ := h j hjn
  rw [e] at e'
  cases e'
  have hadd : (⟨b, o, none⟩ : Addr).add j = ⟨b, o + j, none⟩ := by unfold Addr.add; split <;> simp_all
  rw [hadd]
  exact x
theorem rowC_one {n : Nat} {v : Nat → Value} (h : ∀ i, (v i).oneCell' = true) : ∀ u ∈ rowC n v, u.oneCell' = true := fun u hu => by
  obtain ⟨i, _, rfl⟩ := List.mem_map.1 hu
  exact h i
theorem grown_below {w w' : World} (h : w.grownBy w' none) : Below w.heap.size w w' := ⟨h.os, h.tape, h.output, h.size, fun g hg => h.block g hg (by simp)⟩
theorem FC.put1 {W : World} {q : Nat} {d : CD} {vI vS vN : Value} {oa : Nat → Option Addr} {oc : Nat → Nat} {L : List (Nat × Obj)} {w w' : World} (F : FC W q d 0 (.slice none 0 0) vI vS vN oa oc L w) {a : Option Addr} {n c e : Nat} {v : Nat → Value} (hg : w.grownBy w' none) (ho : w'.ownsRow w.heap.size e 1 (.slice a n c) n (rowC n v)) :
    (w'.cell? ⟨q, 1, none⟩ = some vI ∧ w'.frozen? ⟨q, 1, none⟩ = false) ∧ ∃ L', (∀ p ∈ L, p ∈ L') ∧ RowL q L' a n v ∧ FC W q d 0 (.slice none 0 0) (.slice a n c) vS vN oa oc L' (w'.setCell ⟨q, 1, none⟩ (.slice a n c)) := by
  have hb := grown_below hg
  have lq := lt_of_heap F.code
  have hc := (hb.block q lq).trans F.code
  obtain ⟨L1, hR, h1⟩ := rowL_of ho lq fun i hi => rowC_at hi
  refine ⟨⟨(cell_of_row _ _ 1 _ _ _ hc).trans rfl, by simp [World.frozen?, hc]⟩, L1 ++ L, fun p hp => List.mem_append_right _ hp, hR.more fun p hp => List.mem_append_left _ hp, ?_⟩
  refine ⟨(F.below.trans (hb.mono F.below.size)).setCell F.lo _, F.lo, (heap_set_same hc).trans rfl, ⟨rfl, .inl ⟨rfl, rfl⟩⟩, fun p hp => ?_, fun i hi => absurd hi (by omega)⟩
  rcases List.mem_append.1 hp with h | h
  · have := h1 p h
    exact ⟨(heap_set _ _ _ _ _ (by omega)).trans this.1, by omega, by simp [Value.ownBlock]⟩
  · have := F.fin p h
    exact ⟨(heap_set _ _ _ _ _ this.2.1).trans ((hb.block p.1 (lt_of_heap this.1)).trans this.1), this.2⟩
theorem FC.put2 {W : World} {q : Nat} {d : CD} {vI vS vN : Value} {oa : Nat → Option Addr} {oc : Nat → Nat} {L : List (Nat × Obj)} {w w' : World} (F : FC W q d 0 (.slice none 0 0) vI vS vN oa oc L w) {a : Option Addr} {n c e : Nat} {v : Nat → Value} (hg : w.grownBy w' none) (ho : w'.ownsRow w.heap.size e 1 (.slice a n c) n (rowC n v)) :
    (w'.cell? ⟨q, 2, none⟩ = some vS ∧ w'.frozen? ⟨q, 2, none⟩ = false) ∧ ∃ L', (∀ p ∈ L, p ∈ L') ∧ RowL q L' a n v ∧ FC W q d 0 (.slice none 0 0) vI (.slice a n c) vN oa oc L' (w'.setCell ⟨q, 2, none⟩ (.slice a n c)) := by
  have hb := grown_below hg
  have lq := lt_of_heap F.code
  have hc := (hb.block q lq).trans F.code
  obtain ⟨L1, hR, h1⟩ := rowL_of ho lq fun i hi => rowC_at hi
  refine ⟨⟨(cell_of_row _ _ 2 _ _ _ hc).trans rfl, by simp [World.frozen?, hc]⟩, L1 ++ L, fun p hp => List.mem_append_right _ hp, hR.more fun p hp => List.mem_append_left _ hp, ?_⟩
  refine ⟨(F.below.trans (hb.mono F.below.size)).setCell F.lo _, F.lo, (heap_set_same hc).trans rfl, ⟨rfl, .inl ⟨rfl, rfl⟩⟩, fun p hp => ?_, fun i hi => absurd hi (by omega)⟩
  rcases List.mem_append.1 hp with h | h
  · have := h1 p h
    exact ⟨(heap_set _ _ _ _ _ (by omega)).trans this.1, by omega, by simp [Value.ownBlock]⟩
  · have := F.fin p h
    exact ⟨(heap_set _ _ _ _ _ this.2.1).trans ((hb.block p.1 (lt_of_heap this.1)).trans this.1), this.2⟩
theorem FC.put3 {W : World} {q : Nat} {d : CD} {vI vS vN : Value} {oa : Nat → Option Addr} {oc : Nat → Nat} {L : List (Nat × Obj)} {w w' : World} (F : FC W q d 0 (.slice none 0 0) vI vS vN oa oc L w) {a : Option Addr} {n c e : Nat} {v : Nat → Value} (hg : w.grownBy w' none) (ho : w'.ownsRow w.heap.size e 1 (.slice a n c) n (rowC n v)) :
    (w'.cell? ⟨q, 3, none⟩ = some vN ∧ w'.frozen? ⟨q, 3, none⟩ = false) ∧ ∃ L', (∀ p ∈ L, p ∈ L') ∧ RowL q L' a n v ∧ FC W q d 0 (.slice none 0 0) vI vS (.slice a n c) oa oc L' (w'.setCell ⟨q, 3, none⟩ (.slice a n c)) := by
  have hb := grown_below hg
  have lq := lt_of_heap F.code
  have hc := (hb.block q lq).trans F.code
  obtain ⟨L1, hR, h1⟩ := rowL_of ho lq fun i hi => rowC_at hi
  refine ⟨⟨(cell_of_row _ _ 3 _ _ _ hc).trans rfl, by simp [World.frozen?, hc]⟩, L1 ++ L, fun p hp => List.mem_append_right _ hp, hR.more fun p hp => List.mem_append_left _ hp, ?_⟩
  refine ⟨(F.below.trans (hb.mono F.below.size)).setCell F.lo _, F.lo, (heap_set_same hc).trans rfl, ⟨rfl, .inl ⟨rfl, rfl⟩⟩, fun p hp => ?_, fun i hi => absurd hi (by omega)⟩
  rcases List.mem_append.1 hp with h | h
  · have := h1 p h
    exact ⟨(heap_set _ _ _ _ _ (by omega)).trans this.1, by omega, by simp [Value.ownBlock]⟩
  · have := F.fin p h
    exact ⟨(heap_set _ _ _ _ _ this.2.1).trans ((hb.block p.1 (lt_of_heap this.1)).trans this.1), this.2⟩
theorem set4_block {w : World} {b t : Nat} {u0 u1 u2 u3 : Value} (h : w.heap[b]? = some (.cells #[u0, u1, u2, u3] t)) (v0 v1 v2 v3 : Value) : ((((w.setCell ⟨b, 0, none⟩ v0).setCell ⟨b, 1, none⟩ v1).setCell ⟨b, 2, none⟩ v2).setCell ⟨b, 3, none⟩ v3).heap[b]? = some (.cells #[v0, v1, v2, v3] t) :=
  (heap_set_same ((heap_set_same ((heap_set_same ((heap_set_same h).trans rfl)).trans rfl)).trans rfl)).trans rfl
theorem set4_below {w W : World} {b B : Nat} (h : Below B w W) (hb : B ≤ b) (v0 v1 v2 v3 : Value) : Below B w ((((W.setCell ⟨b, 0, none⟩ v0).setCell ⟨b, 1, none⟩ v1).setCell ⟨b, 2, none⟩ v2).setCell ⟨b, 3, none⟩ v3) :=
  (((h.setCell hb _).setCell hb _).setCell hb _).setCell hb _
theorem op_one (s : ByteArray) (z : Int) : ∀ u ∈ [Value.string s, Value.int .i64 z], u.oneCell' = true := fun u hu => by
  simp only [List.mem_cons, List.not_mem_nil, or_false] at hu
  rcases hu with rfl | rfl <;> rfl
set_option maxHeartbeats 8000000 in
set_option maxRecDepth 100000 in
theorem codeOf_any (d : CD) (aF aI aS aN : Option Addr) (cF cI cS cN : Nat) (hn : d.nF ≤ 1048576) (hnI : d.nI ≤ 1048576) (hnS : d.nS ≤ 1048576) (hnN : d.nN ≤ 1048576) (ho : ∀ i, i < d.nF → (d.fs i).n ≤ 1048576)
    (W : World) (hC : CodeIn W d aF aI aS aN) :
    Calls Tryd.prog 8 #[.agg #[.slice aF d.nF cF, .slice aI d.nI cI, .slice aS d.nS cS, .slice aN d.nN cN]] W fun ev w' => ∃ aF' aI' aS' aN' cF' cI' cS' cN', ev = .returned (.agg #[.slice aF' d.nF cF', .slice aI' d.nI cI', .slice aS' d.nS cS', .slice aN' d.nN cN']) ∧ CodeIn w' d aF' aI' aS' aN' ∧ Below W.heap.size W w' := by
  obtain ⟨k1, k2, k3, k4⟩ := three_made W (.cells #[.slice aF d.nF cF, .slice aI d.nI cI, .slice aS d.nS cS, .slice aN d.nN cN] 26) (.cells #[.slice none 0 0, .slice none 0 0, .slice none 0 0, .slice none 0 0] 32) (.cells #[.slice none 0 0, .slice none 0 0, .slice none 0 0, .slice none 0 0] 32)
  obtain ⟨w1, hw1⟩ : ∃ w1, w1 = ((W.alloc (.cells #[.slice aF d.nF cF, .slice aI d.nI cI, .slice aS d.nS cS, .slice aN d.nN cN] 26)).alloc (.cells #[.slice none 0 0, .slice none 0 0, .slice none 0 0, .slice none 0 0] 32)).alloc (.cells #[.slice none 0 0, .slice none 0 0, .slice none 0 0, .slice none 0 0] 32) := ⟨_, rfl⟩
  rw [← hw1] at k1 k2 k3 k4
  have HW := toHid hw1
  have HC := toHid hC
  have HO := toHid ho
  clear hw1 hC ho
  have hF0 := FC.mk (q := W.heap.size + 2) (d := d) (k := 0) (oa := fun _ => none) (oc := fun _ => 0) (L := [(W.heap.size, .cells #[.slice aF d.nF cF, .slice aI d.nI cI, .slice aS d.nS cS, .slice aN d.nN cN] 26), (W.heap.size + 1, .cells #[.slice none 0 0, .slice none 0 0, .slice none 0 0, .slice none 0 0] 32)]) k4 (by omega) k3 ⟨rfl, .inl ⟨rfl, rfl⟩⟩ (fun p hp => by
    simp only [List.mem_cons, List.not_mem_nil, or_false] at hp
    rcases hp with rfl | rfl
    · exact ⟨k1, by simp, by simp [Value.ownBlock]⟩
    · exact ⟨k2, by simp, by simp [Value.ownBlock]⟩) (fun i hi => absurd hi (by omega))
  obtain ⟨i6, h6, z6, s6, b6⟩ := info_i64
  obtain ⟨i9, h9, z9, s9, b9⟩ := info_str
  have HF0 := toHid hF0
  clear hF0 k1 k2 k3 k4
  obtain ⟨q2, hq2⟩ : ∃ q2, q2 = W.heap.size + 1 := ⟨_, rfl⟩
  obtain ⟨q3, hq3⟩ : ∃ q3, q3 = W.heap.size + 2 := ⟨_, rfl⟩
  have HQ2 := toHid hq2
  have HQ3 := toHid hq3
  rw [← hq2, ← hq3] at HF0
  have CELLS : Hid (∀ (vF vI vS vN : Value) (oa : Nat → Option Addr) (oc : Nat → Nat) (L : List (Nat × Obj)) (w : World) (k : Nat), FC W q3 d k vF vI vS vN oa oc L w → (W.heap.size, Obj.cells #[.slice aF d.nF cF, .slice aI d.nI cI, .slice aS d.nS cS, .slice aN d.nN cN] 26) ∈ L →
      (w.cell? ⟨W.heap.size, 0, none⟩ = some (.slice aF d.nF cF) ∧ w.cell? ⟨W.heap.size, 1, none⟩ = some (.slice aI d.nI cI) ∧ w.cell? ⟨W.heap.size, 2, none⟩ = some (.slice aS d.nS cS) ∧ w.cell? ⟨W.heap.size, 3, none⟩ = some (.slice aN d.nN cN)) ∧ (w.cell? ⟨q3, 0, none⟩ = some vF ∧ w.cell? ⟨q3, 1, none⟩ = some vI ∧ w.cell? ⟨q3, 2, none⟩ = some vS ∧ w.cell? ⟨q3, 3, none⟩ = some vN)) := fun _ _ _ _ _ _ _ _ _ F hm => by
    have h1 := (F.fin _ hm).1
    have h2 := F.code
    exact ⟨⟨(cell_of_row _ _ 0 _ _ _ h1).trans rfl, (cell_of_row _ _ 1 _ _ _ h1).trans rfl, (cell_of_row _ _ 2 _ _ _ h1).trans rfl, (cell_of_row _ _ 3 _ _ _ h1).trans rfl⟩, (cell_of_row _ _ 0 _ _ _ h2).trans rfl, (cell_of_row _ _ 1 _ _ _ h2).trans rfl, (cell_of_row _ _ 2 _ _ _ h2).trans rfl, (cell_of_row _ _ 3 _ _ _ h2).trans rfl⟩
  have HM0 : Hid ((W.heap.size, Obj.cells #[.slice aF d.nF cF, .slice aI d.nI cI, .slice aS d.nS cS, .slice aN d.nN cN] 26) ∈ [(W.heap.size, Obj.cells #[.slice aF d.nF cF, .slice aI d.nI cI, .slice aS d.nS cS, .slice aN d.nN cN] 26), (q2, .cells #[.slice none 0 0, .slice none 0 0, .slice none 0 0, .slice none 0 0] 32)]) := List.mem_cons_self
  obtain ⟨⟨_, x1, _, _⟩, _, y1, _, _⟩ := CELLS.out _ _ _ _ _ _ _ _ _ HF0.out HM0.out
  have HR1 : Hid (0 < d.nI → ∃ ad, aI = some ad ∧ ∀ j u, (rowC d.nI fun i => .int .i64 (d.xs i))[j]? = some u → w1.cell? (ad.add j) = some u) := rowC_in (HC.out.below HF0.out.below).ints
  go_enter Tryd.func8, Tryd.ntmps8
  go_upto_region 2 with fail
  rw [← HW.out, show W.heap.size + 1 + 1 = q3 from hq3.symm, ← hq2]
  clear hq2 hq3
  go_upto_region 3 with (at_builtin; refine wpList_append_nil rfl _ _ _ rfl 2 i6 (.int .i64 0) 1 8 Tryd.underlying23 h6 z6 s6 b6 rfl (by decide) rfl aI d.nI cI (rowC d.nI fun i => .int .i64 (d.xs i)) rfl (rowC_len _ _) HR1.out (rowC_one fun _ => rfl) (by unfold maxLen; omega) (by omega) ?_; intro aI' cI' w2 hown2 hgr2; obtain ⟨⟨t1, tf1⟩, L1, hL1, hI1, hF1⟩ := HF0.out.put1 hgr2 hown2; have HF1 := toHid hF1; have HL1 := toHid hL1; have HI1 := toHid hI1; clear hF1 hL1 hI1 hown2 hgr2 x1 y1)
  obtain ⟨⟨_, _, x2, _⟩, _, _, y2, _⟩ := CELLS.out _ _ _ _ _ _ _ _ _ HF1.out (HL1.out _ HM0.out)
  have HR2 : Hid (0 < d.nS → ∃ ad, aS = some ad ∧ ∀ j u, (rowC d.nS fun i => .string (d.ss i))[j]? = some u → (w2.setCell ⟨q3, 1, none⟩ (.slice aI' d.nI cI')).cell? (ad.add j) = some u) := rowC_in (HC.out.below HF1.out.below).strs
  obtain ⟨w3, hw3⟩ : ∃ w3, w3 = w2.setCell ⟨q3, 1, none⟩ (.slice aI' d.nI cI') := ⟨_, rfl⟩
  rw [← hw3] at x2 y2 HF1 HR2 ⊢
  clear hw3 t1 tf1
  go_upto_region 4 with (at_builtin; refine wpList_append_nil rfl _ _ _ rfl 9 i9 (.string ⟨#[]⟩) 1 16 Tryd.underlying24 h9 z9 s9 b9 rfl (by decide) rfl aS d.nS cS (rowC d.nS fun i => .string (d.ss i)) rfl (rowC_len _ _) HR2.out (rowC_one fun _ => rfl) (by unfold maxLen; omega) (by omega) ?_; intro aS' cS' w4 hown2 hgr2; obtain ⟨⟨t1, tf1⟩, L2, hL2, hI2, hF2⟩ := HF1.out.put2 hgr2 hown2; have HF2 := toHid hF2; have HL2 := toHid hL2; have HI2 := toHid hI2; clear hF2 hL2 hI2 hown2 hgr2 x2 y2)
  obtain ⟨⟨_, _, _, x2⟩, _, _, _, y2⟩ := CELLS.out _ _ _ _ _ _ _ _ _ HF2.out (HL2.out _ (HL1.out _ HM0.out))
  have HR3 : Hid (0 < d.nN → ∃ ad, aN = some ad ∧ ∀ j u, (rowC d.nN fun i => .string (d.ns i))[j]? = some u → (w4.setCell ⟨q3, 2, none⟩ (.slice aS' d.nS cS')).cell? (ad.add j) = some u) := rowC_in (HC.out.below HF2.out.below).names
  obtain ⟨w5, hw5⟩ : ∃ w5, w5 = w4.setCell ⟨q3, 2, none⟩ (.slice aS' d.nS cS') := ⟨_, rfl⟩
  rw [← hw5] at x2 y2 HF2 HR3 ⊢
  clear hw5 t1 tf1
  go_upto_region 5 with (at_builtin; refine wpList_append_nil rfl _ _ _ rfl 9 i9 (.string ⟨#[]⟩) 1 16 Tryd.underlying24 h9 z9 s9 b9 rfl (by decide) rfl aN d.nN cN (rowC d.nN fun i => .string (d.ns i)) rfl (rowC_len _ _) HR3.out (rowC_one fun _ => rfl) (by unfold maxLen; omega) (by omega) ?_; intro aN' cN' w6 hown2 hgr2; obtain ⟨⟨t1, tf1⟩, L3, hL3, hI3, hF3⟩ := HF2.out.put3 hgr2 hown2; have HF3 := toHid hF3; have HL3 := toHid hL3; have HI3 := toHid hI3; clear hF3 hL3 hI3 hown2 hgr2 x2 y2)
  obtain ⟨w7, hw7⟩ : ∃ w7, w7 = w6.setCell ⟨q3, 3, none⟩ (.slice aN' d.nN cN') := ⟨_, rfl⟩
  rw [← hw7] at HF3 ⊢
  clear hw7 t1 tf1 HR1 HR2 HR3
  have HM3 : Hid ((W.heap.size, Obj.cells #[.slice aF d.nF cF, .slice aI d.nI cI, .slice aS d.nS cS, .slice aN d.nN cN] 26) ∈ L3) := HL3.out _ (HL2.out _ (HL1.out _ HM0.out))
  have HZ3 : Hid ((q2, Obj.cells #[.slice none 0 0, .slice none 0 0, .slice none 0 0, .slice none 0 0] 32) ∈ L3) := HL3.out _ (HL2.out _ (HL1.out _ (by simp)))
  have HIS : Hid (RowL q3 L3 aI' d.nI (fun i => .int .i64 (d.xs i)) ∧ RowL q3 L3 aS' d.nS (fun i => .string (d.ss i)) ∧ RowL q3 L3 aN' d.nN (fun i => .string (d.ns i))) := ⟨HI1.out.more fun p hp => HL3.out _ (HL2.out _ hp), HI2.out.more fun p hp => HL3.out _ hp, HI3.out⟩
  clear HI1 HI2 HI3 HL1 HL2 HL3 HM0 HF1 HF2
  go_wp2_with fail
  go_loopg [4] (d.nF + 1) (fun gk v4 wr => ∃ (i : Nat) (vF : Value) (oa : Nat → Option Addr) (oc : Nat → Nat) (L : List (Nat × Obj)), gk = d.nF + 1 - i ∧ i ≤ d.nF ∧ v4 = .int .i64 (i : Int) ∧ Hid (FC W q3 d i vF (.slice aI' d.nI cI') (.slice aS' d.nS cS') (.slice aN' d.nN cN') oa oc L wr) ∧ Hid (∀ p ∈ L3, p ∈ L))
  case atStart => exact ⟨0, _, _, _, L3, rfl, Nat.zero_le _, rfl, HF3, fun _ h => h⟩
  case round =>
    obtain ⟨i, vF, oa, oc, L, hgk, hi, rfl, HF, HL⟩ := hrel
    have HG := toHid hgk
    clear hgk
    obtain ⟨⟨x0, _, _, _⟩, y0, y1, y2, y3⟩ := CELLS.out _ _ _ _ _ _ _ _ _ HF.out (HL.out _ HM3.out)
    by_cases hlt : i < d.nF
    · have hJ : (i : Int) < (d.nF : Int) := by omega
      have hJ0 : (0 : Int) ≤ (i : Int) := by omega
      obtain ⟨bF, oF, fa, fc, rfl, hFI⟩ := HC.out.func i hlt
      have HFI := toHid hFI
      obtain ⟨c0, c1, c2, c3, c4, c5, _⟩ := hFI.below HF.out.below
      clear hFI y1 y2 y3
      have hno := HO.out i hlt
      obtain ⟨k1, k2, k3⟩ := two_made wr (.cells #[.string (d.fs i).name, .int .i64 (d.fs i).p, .int .i64 (d.fs i).l, .int .i64 (d.fs i).c, .int .i64 (d.fs i).f, .slice fa (d.fs i).n fc] 49) (.cells #[.string (d.fs i).name, .int .i64 (d.fs i).p, .int .i64 (d.fs i).l, .int .i64 (d.fs i).c, .int .i64 (d.fs i).f, .slice none 0 0] 39)
      obtain ⟨w8, hw8⟩ : ∃ w8, w8 = (wr.alloc (.cells #[.string (d.fs i).name, .int .i64 (d.fs i).p, .int .i64 (d.fs i).l, .int .i64 (d.fs i).c, .int .i64 (d.fs i).f, .slice fa (d.fs i).n fc] 49)).alloc (.cells #[.string (d.fs i).name, .int .i64 (d.fs i).p, .int .i64 (d.fs i).l, .int .i64 (d.fs i).c, .int .i64 (d.fs i).f, .slice none 0 0] 39) := ⟨_, rfl⟩
      rw [← hw8] at k1 k2 k3
      have HW8 := toHid hw8
      have K1 := toHid k1
      have K2 := toHid k2
      have K3 := toHid k3
      clear hw8 k1 k2 k3
      go_upto_region 10 with fail
      rw [← HW8.out]
      obtain ⟨q5, hq5⟩ : ∃ q5, q5 = wr.heap.size := ⟨_, rfl⟩
      obtain ⟨q6, hq6⟩ : ∃ q6, q6 = q5 + 1 := ⟨_, rfl⟩
      rw [← hq5] at K1 K2 K3 ⊢
      rw [← hq6] at K2 ⊢
      have HQ6 := toHid hq6
      have HQ5 := toHid hq5
      have hX0 : XO w8 q6 (d.fs i) 0 (.slice none 0 0) w8 := ⟨Below.refl _ _, K2.out, rfl, .inl ⟨rfl, rfl⟩⟩
      have HX0 := toHid hX0
      have HW8' : Hid (Below W.heap.size W w8 ∧ W.heap.size ≤ q5) := ⟨HF.out.below.trans (K3.out.mono (by rw [hq5]; exact HF.out.below.size)), by rw [hq5]; exact HF.out.below.size⟩
      obtain ⟨wo, hwo⟩ : ∃ wo, wo = wr := ⟨_, rfl⟩
      rw [← hwo] at HF K3 HQ5
      clear hwo hq5 hq6 hX0 c0 c1 c2 c3 c4 c5 x0
      go_wp2_with fail
      go_loopg [7] ((d.fs i).n + 1) (fun gj v7 wr2 => ∃ (j : Nat) (a : Option Addr) (ca : Nat), gj = (d.fs i).n + 1 - j ∧ j ≤ (d.fs i).n ∧ v7 = .int .i64 (j : Int) ∧ Hid (XO w8 q6 (d.fs i) j (.slice a j ca) wr2))
      case atStart => exact ⟨0, none, 0, rfl, Nat.zero_le _, rfl, HX0⟩
      case round =>
        obtain ⟨j, a, ca, hgj, hj, rfl, HX⟩ := hrel
        have HGJ := toHid hgj
        clear hgj
        have f5 : wr.cell? ⟨q5, 5, none⟩ = some (.slice fa (d.fs i).n fc) := (HX.out.below.cell (p := ⟨q5, 5, none⟩) (by have := HQ6.out; show q5 < q6; omega)).trans ((cell_of_row _ _ 5 _ _ _ K1.out).trans rfl)
        by_cases hjl : j < (d.fs i).n
        · have hK : (j : Int) < ((d.fs i).n : Int) := by omega
          have hK0 : (0 : Int) ≤ (j : Int) := by omega
          obtain ⟨ob, oo, rfl, r1, r2⟩ := HFI.out.op j hjl
          have hbW : Below W.heap.size W wr := HW8'.out.1.trans (HX.out.below.mono (by have := HW8'.out.2; have := HQ6.out; omega))
          replace r1 := (hbW.cell (p := ⟨ob, oo + j * 2, none⟩) (lt_of_cell r1)).trans r1
          replace r2 := (hbW.cell (p := ⟨ob, oo + j * 2 + 1, none⟩) (lt_of_cell r2)).trans r2
          have hxb := HX.out.xb
          have g5 : wr.cell? ⟨q6, 5, none⟩ = some (.slice a j ca) := (cell_of_row _ _ 5 _ _ _ hxb).trans rfl
          have gf : wr.frozen? ⟨q6, 5, none⟩ = false := by simp [World.frozen?, hxb]
          obtain ⟨i0, hi0, hz0, hz1, hz2⟩ := info_op
          have HSZ : Hid (q6 + 1 ≤ wr.heap.size) := lt_of_heap hxb
          have hl6 := lt_of_heap hxb
          generalize hgn : (d.fs i).nm j = nm at r1
          generalize hga : (d.fs i).ar j = ar at r2
          have HGN := toHid hgn
          have HGA := toHid hga
          clear hxb hbW hgn hga y0
          go_upto_region 13 with fail
          go_region_law (first | (refine step_append_lies _ (by rfl) _ _ _ (by rfl) (q6 + 1) 41 i0 (.agg #[.string ⟨#[]⟩, .int .i64 0]) 2 24 Tryd.underlying37 hi0 hz0 hz1 hz2 rfl (by decide) (.slice a j ca) j (opsC (d.fs i) j) rfl (by first | exact ownsRow_far' HX.out.row (fun g hg => heap_alloc_old _ _ (own_lt2 HX.out.row g hg).2)) ⟨wr.heap.size, 0, none⟩ 1 1 [.string nm, .int .i64 ar] rfl rfl (World.news_of_block (cs := #[.string nm, .int .i64 ar]) (t := 41) (heap_alloc_new _ _)) (op_one _ _) (by decide) (by unfold maxLen; omega) (by omega) (by have := HSZ.out; simp; omega) _ rfl ?_; intro g' cap' w9 hown9 hgrow9 hat9 hlt9; obtain ⟨e0, hX3⟩ := HX.out.next (((Below.refl _ _).alloc (Nat.le_refl _) _).drew) hgrow9 (by rw [HGN.out, HGA.out]; exact hown9); have t5 := (World.cell?_of_block (a := ⟨q6, 5, none⟩) e0).trans g5; have tf5 := (World.frozen?_of_block (a := ⟨q6, 5, none⟩) e0).trans gf; have HX3 := toHid hX3; clear hown9 hgrow9 hat9 hlt9 hX3 e0))
          all_goals go_wp2_with fail
          all_goals go_roundg ((d.fs i).n + 1 - (j + 1))
          all_goals (first | (have := HGJ.out; omega) | exact ⟨j + 1, some ⟨g', 0, none⟩, cap', rfl, by omega, by go_num, HX3⟩)
        · obtain rfl : j = (d.fs i).n := by omega
          have HB8 : Hid (Below q5 wo wr) := K3.out.trans (HX.out.below.mono (by have := HQ6.out; omega))
          obtain ⟨L4, hO4, h4⟩ := opsL_of (q := q3) HX.out.row (by have := lt_of_heap HF.out.code; have := HQ5.out; have := HQ6.out; omega)
          have hF4 := (HF.out.grow (w' := wr) (by rw [← HQ5.out]; exact HB8.out)).add (L1 := L4) (fun p hp => ⟨(h4 p hp).1, by have := (h4 p hp).2; have := lt_of_heap HF.out.code; have := HQ5.out; have := HQ6.out; omega, fun e => by have := (own_lt2 HF.out.row p.1 e).2; have := (h4 p hp).2; have := HQ5.out; have := HQ6.out; omega⟩)
          have HO4 : Hid (OpsL q3 (L4 ++ L) a (d.fs i)) := hO4.more fun p hp => List.mem_append_left _ hp
          obtain ⟨av, cv, rfl⟩ := own_slice hF4.row
          have HF4 := toHid hF4
          obtain ⟨iF, hF, zF, sF, bF'⟩ := info_func
          have t0 : wr.cell? ⟨q3, 0, none⟩ = some (.slice av i cv) := (cell_of_row _ _ 0 _ _ _ hF4.code).trans rfl
          have tf : wr.frozen? ⟨q3, 0, none⟩ = false := by simp [World.frozen?, hF4.code]
          have hxb := HX.out.xb
          have g0 : wr.cell? ⟨q6, 0, none⟩ = some (.string (d.fs i).name) := (cell_of_row _ _ 0 _ _ _ hxb).trans rfl
          have g1 : wr.cell? ⟨q6, 1, none⟩ = some (.int .i64 (d.fs i).p) := (cell_of_row _ _ 1 _ _ _ hxb).trans rfl
          have g2 : wr.cell? ⟨q6, 2, none⟩ = some (.int .i64 (d.fs i).l) := (cell_of_row _ _ 2 _ _ _ hxb).trans rfl
          have g3 : wr.cell? ⟨q6, 3, none⟩ = some (.int .i64 (d.fs i).c) := (cell_of_row _ _ 3 _ _ _ hxb).trans rfl
          have g4 : wr.cell? ⟨q6, 4, none⟩ = some (.int .i64 (d.fs i).f) := (cell_of_row _ _ 4 _ _ _ hxb).trans rfl
          have g5 : wr.cell? ⟨q6, 5, none⟩ = some (.slice a (d.fs i).n ca) := (cell_of_row _ _ 5 _ _ _ hxb).trans rfl
          have HBA : Hid (Below wr.heap.size wr (wr.alloc (.cells #[.string (d.fs i).name, .int .i64 (d.fs i).p, .int .i64 (d.fs i).l, .int .i64 (d.fs i).c, .int .i64 (d.fs i).f, .slice a (d.fs i).n ca] 39))) := (Below.refl _ _).alloc (Nat.le_refl _) _
          have HRW : Hid ((wr.alloc (.cells #[.string (d.fs i).name, .int .i64 (d.fs i).p, .int .i64 (d.fs i).l, .int .i64 (d.fs i).c, .int .i64 (d.fs i).f, .slice a (d.fs i).n ca] 39)).ownsRow (q3 + 1) 39 6 (.slice av i cv) i (funcsC d.fs (fun i => .slice (oa i) (d.fs i).n (oc i)) i)) := ownsRow_far' hF4.row (fun g hg => heap_alloc_old _ _ (own_lt2 hF4.row g hg).2)
          have HSZ : Hid (q3 + 1 ≤ wr.heap.size) := by have := lt_of_heap hF4.code; show _ ≤ _; omega
          clear hF4 hO4 h4 hxb y0
          go_wp2_with (at_builtin; refine wpList_append_lies _ rfl _ _ _ rfl (q3 + 1) 39 iF _ 6 72 Tryd.underlying30 hF zF sF bF' rfl (by decide) (.slice av i cv) i _ rfl HRW.out ⟨wr.heap.size, 0, none⟩ 1 1 (funcC (d.fs i) (.slice a (d.fs i).n ca)) rfl rfl (World.news_of_block (cs := #[.string (d.fs i).name, .int .i64 (d.fs i).p, .int .i64 (d.fs i).l, .int .i64 (d.fs i).c, .int .i64 (d.fs i).f, .slice a (d.fs i).n ca]) (t := 39) (heap_alloc_new _ _)) (funcC_one _ _ _ _) (by decide) (by unfold maxLen; omega) (by omega) (by have := HSZ.out; simp; omega) _ rfl ?_; intro g' cap' w9 hown9 hgrow9 hat9 hlt9; obtain ⟨e0, hF9⟩ := HF4.out.next HBA.out a ca HO4.out hgrow9 hown9 (fun q hq => by cases hq; exact hat9.imp id (fun h => by rw [h]; exact Nat.le_refl _)); replace t0 := (World.cell?_of_block (a := ⟨q3, 0, none⟩) e0).trans t0; replace tf := (World.frozen?_of_block (a := ⟨q3, 0, none⟩) e0).trans tf; have HF9 := toHid hF9; clear hown9 hgrow9 hat9 e0 hF9 g0 g1 g2 g3 g4 g5)
          go_roundg (d.nF + 1 - (i + 1))
          case measure => have := HG.out; omega
          case rel => exact ⟨i + 1, _, _, _, _, rfl, by omega, by go_num, HF9, fun p hp => List.mem_append_right _ (HL.out p hp)⟩
    · obtain rfl : i = d.nF := by omega
      obtain ⟨av, cv, rfl⟩ := own_slice HF.out.row
      have HE : Hid (q2 < q3 ∧ W.heap.size ≤ q2) := by have := HQ2.out; have := HQ3.out; show _ ∧ _; omega
      have hz := HF.out.fin _ (HL.out _ HZ3.out)
      have z0 : wr.cell? ⟨q2, 0, none⟩ = some (.slice none 0 0) := (cell_of_row _ _ 0 _ _ _ hz.1).trans rfl
      have z1 : wr.cell? ⟨q2, 1, none⟩ = some (.slice none 0 0) := (cell_of_row _ _ 1 _ _ _ hz.1).trans rfl
      have z2 : wr.cell? ⟨q2, 2, none⟩ = some (.slice none 0 0) := (cell_of_row _ _ 2 _ _ _ hz.1).trans rfl
      have z3 : wr.cell? ⟨q2, 3, none⟩ = some (.slice none 0 0) := (cell_of_row _ _ 3 _ _ _ hz.1).trans rfl
      have zf0 : wr.frozen? ⟨q2, 0, none⟩ = false := by simp [World.frozen?, hz.1]
      have zf1 : wr.frozen? ⟨q2, 1, none⟩ = false := by simp [World.frozen?, hz.1]
      have zf2 : wr.frozen? ⟨q2, 2, none⟩ = false := by simp [World.frozen?, hz.1]
      have zf3 : wr.frozen? ⟨q2, 3, none⟩ = false := by simp [World.frozen?, hz.1]
      have HZ := toHid hz.1
      clear hz
      go_wp2_with fail
      have hE := set4_block HZ.out (.slice av d.nF cv) (.slice aI' d.nI cI') (.slice aS' d.nS cS') (.slice aN' d.nN cN')
      obtain ⟨aF', cF', e, hCI⟩ := HF.out.codeIn (w' := ((((wr.setCell ⟨q2, 0, none⟩ (.slice av d.nF cv)).setCell ⟨q2, 1, none⟩ (.slice aI' d.nI cI')).setCell ⟨q2, 2, none⟩ (.slice aS' d.nS cS')).setCell ⟨q2, 3, none⟩ (.slice aN' d.nN cN'))) (HIS.out.1.more HL.out) (HIS.out.2.1.more HL.out) (HIS.out.2.2.more HL.out) (fun b hb => by have := HE.out; rw [heap_set _ _ _ _ _ (by omega), heap_set _ _ _ _ _ (by omega), heap_set _ _ _ _ _ (by omega), heap_set _ _ _ _ _ (by omega)])
      cases e
      refine bodyPost_ret (codeOf_results _ _ q2 _ _ _ _ rfl ((cell_of_row _ _ 0 _ _ _ hE).trans rfl) ((cell_of_row _ _ 1 _ _ _ hE).trans rfl) ((cell_of_row _ _ 2 _ _ _ hE).trans rfl) ((cell_of_row _ _ 3 _ _ _ hE).trans rfl)) rfl ?_
      exact ⟨av, aI', aS', aN', ⟨cv, cI', cS', cN', rfl⟩, hCI, set4_below HF.out.below HE.out.2 _ _ _ _⟩
end Go.Proofs.YtgpfjlejmcdpmaaDoor
