/- A heap block by block as a memory's data; a new heap's memory has its shape, and its text. -/
import Derived.Test.YtlkcbdinlfeoiabGreatDoorHpE
import Derived.Test.YtlkcbdinlfeoiabGreatDoorKnBC
import Derived.Test.YtlkcbdinlfeoiabGreatDoorMemD
import Derived.Test.YtlkcbdinlfeoiabGreatDoorKnAE
import Derived.Test.YtlkcbdinlfeoiabGreatDoorKnBA
import Derived.Test.YtlkcbdinlfeoiabGreatDoorKnAA
import Derived.Test.YtlkcbdinlfeoiabGreatDoorKnAO
import Derived.Laws.CopyOwn
namespace Go.Proofs.YtlkcbdinlfeoiabGreatDoor
open Go.RowKit

theorem HeapIs.at {q p bW bR bC nW nR nC : Nat} {half old card used top oldTop tn sr : Int} {cW cR cC : Array Value} {w : World} (h : HeapIs q p bW bR bC nW nR nC half old card used top oldTop tn sr cW cR cC w) : HeapAt q p tn sr w :=
  ⟨lt_of_heap h.hq, by rw [cell_of_row _ _ 0 _ _ _ h.hq]; rfl, by rw [cell_of_row _ _ 1 _ _ _ h.hq]; rfl, by rw [cell_of_row _ _ 2 _ _ _ h.hq]; rfl⟩
theorem HeapIs.rep {q p bW bR bC : Nat} {half old card used top oldTop tn sr : Int} {W R : List Int} {C : List Bool} {w : World} (h : HeapIs q p bW bR bC W.length R.length C.length half old card used top oldTop tn sr (wordsV W).toArray (wordsV R).toArray (boolsV C).toArray w) :
    RepP p ⟨half, old, card, used, top, oldTop, W, R, [], [], C⟩ w := by
  refine ⟨.slice (some ⟨bW, 0, none⟩) W.length W.length, .slice (some ⟨bR, 0, none⟩) R.length R.length, .slice none 0 0, .slice none 0 0, .slice (some ⟨bC, 0, none⟩) C.length C.length, lt_of_heap h.hp, ?_, ?_, ?_, ?_, ?_, ?_⟩
  · constructor <;> (rw [cell_of_row _ _ _ _ _ _ h.hp]; rfl)
  · refine ⟨_, _, rfl, Nat.le_refl _, fun _ => ⟨bW, rfl, lt_of_heap h.hW, fun j u hj => ?_⟩⟩
    rw [cell_of_row _ _ j _ _ _ h.hW, List.getElem?_toArray]
    exact hj
  · refine ⟨_, _, rfl, Nat.le_refl _, fun _ => ⟨bR, 0, rfl, lt_of_heap h.hR, fun j u hj => ?_⟩⟩
    rw [Nat.zero_add, cell_of_row _ _ j _ _ _ h.hR, List.getElem?_toArray]
    exact hj
  · exact ⟨none, 0, rfl, Nat.le_refl _, fun h => absurd h (by simp)⟩
  · exact ⟨none, 0, rfl, Nat.le_refl _, fun h => absurd h (by simp)⟩
  · refine ⟨_, _, rfl, Nat.le_refl _, fun _ => ⟨bC, rfl, lt_of_heap h.hC, fun j u hj => ?_⟩⟩
    rw [cell_of_row _ _ j _ _ _ h.hC, List.getElem?_toArray]
    exact hj
/-- A new heap's memory. -/
def newM (half old card : Int) (nW nC n : Nat) : MD := ⟨half, old, card, 0, 0, 0, List.replicate nW 0, List.replicate n 2, [], [], List.replicate nC false⟩
theorem newM_shape {half old card : Int} {nW nC n : Nat} (hn : numsOK half old card) (hW : (nW : Int) = 2 * half + old) (hC : (nC : Int) = (old + card - 1) / card) : (newM half old card nW nC n).Shape [] := by
  have e1 : (newM half old card nW nC n).n1 = (newM half old card nW nC n).n0 := by simp [MD.n1, MD.n0, newM]
  have e2 : (newM half old card nW nC n).m1 = (newM half old card nW nC n).m0 := by simp [MD.m1, MD.m0, newM]
  have hn' := hn
  unfold numsOK at hn'
  refine ⟨⟨hn, by simpa [newM] using hW, by simpa [newM] using hC, by simp [newM], by simp [newM], by simp [newM], ?_, by simp [newM], ?_⟩, ?_, ?_, ?_⟩
  · show (0 : Int) ≤ half; omega
  · show (0 : Int) ≤ old; omega
  · unfold MD.objs; rw [e1, e2, Nat.sub_self, Nat.sub_self]; rfl
  · unfold MD.holdB; rw [e1, e2, Nat.sub_self, Nat.sub_self]; rfl
  · unfold MD.restB
    have : (newM half old card nW nC n).R.all (fieldB (newM half old card nW nC n).W.length (fun i => decide (i ∈ ([] : List Nat)))) = true := by
      rw [List.all_eq_true]
      intro x hx
      rw [(List.mem_replicate.1 hx).2]
      rfl
    rw [this]
    rfl
theorem newM_cards (half old card : Int) (nW nC n : Nat) : (newM half old card nW nC n).cardsB = true := by
  have e2 : (newM half old card nW nC n).m1 = (newM half old card nW nC n).m0 := by simp [MD.m1, MD.m0, newM]
  unfold MD.cardsB
  rw [e2, Nat.sub_self]
  rfl
theorem newM_64 (half old card : Int) (nW nC n : Nat) : MD64 (newM half old card nW nC n) :=
  ⟨(fun x hx => by rw [(List.mem_replicate.1 hx).2]; decide), (fun x hx => by rw [(List.mem_replicate.1 hx).2]; decide), (fun x hx => by cases hx), (fun x hx => by cases hx)⟩
end Go.Proofs.YtlkcbdinlfeoiabGreatDoor
namespace Go.Proofs.YtlkcbdinlfeoiabGreatDoor
open Go.RowKit

/-- A cell that holds nothing. -/
def cell0 : Value := .agg #[.int .i64 0, .int .i64 0, .pointer none]
end Go.Proofs.YtlkcbdinlfeoiabGreatDoor
namespace Go.Proofs.YtlkcbdinlfeoiabGreatDoor
open Go.RowKit

/-- A model in memory, whose roots hold nothing. -/
structure ModelAt (q b n : Nat) (w : World) : Prop where
  lq : q < w.heap.size
  lb : b < w.heap.size
  c0 : w.cell? ⟨q, 0, none⟩ = some (.slice (some ⟨b, 0, none⟩) n n)
  k0 : ∀ k < n, w.cell? ⟨b, k * 3, none⟩ = some (.int .i64 0)
  k1 : ∀ k < n, w.cell? ⟨b, k * 3 + 1, none⟩ = some (.int .i64 0)
  k2 : ∀ k < n, w.cell? ⟨b, k * 3 + 2, none⟩ = some (.pointer none)
theorem ModelAt.below {q b n : Nat} {w w' : World} (h : ModelAt q b n w) (hb : Below w.heap.size w w') : ModelAt q b n w' where
  lq := Nat.lt_of_lt_of_le h.lq hb.size
  lb := Nat.lt_of_lt_of_le h.lb hb.size
  c0 := (hb.cell (p := ⟨q, 0, none⟩) h.lq).trans h.c0
  k0 k hk := (hb.cell (p := ⟨b, k * 3, none⟩) h.lb).trans (h.k0 k hk)
  k1 k hk := (hb.cell (p := ⟨b, k * 3 + 1, none⟩) h.lb).trans (h.k1 k hk)
  k2 k hk := (hb.cell (p := ⟨b, k * 3 + 2, none⟩) h.lb).trans (h.k2 k hk)
end Go.Proofs.YtlkcbdinlfeoiabGreatDoor
namespace Go.Proofs.YtlkcbdinlfeoiabGreatDoor
open Go.RowKit

/-- What the law stands on: the errors, the tables. -/
structure HEnv (a : Nat → Addr) (w : World) : Prop where
  errs : MErr a w
  tab : TabbedM w
  tz : Tz16 w
theorem HEnv.below {a : Nat → Addr} {w w' : World} (h : HEnv a w) (hb : Below w.heap.size w w') : HEnv a w' := ⟨h.errs.below hb, h.tab.below hb (Nat.le_refl _), h.tz.below hb (Nat.le_refl _)⟩
theorem HEnv.me {a : Nat → Addr} {w : World} (h : HEnv a w) : MErr3 a w := ⟨h.errs.c1, h.errs.c2, h.errs.c4⟩
theorem HEnv.we {a : Nat → Addr} {w : World} (h : HEnv a w) : WErr a w := ⟨h.errs.c1, h.errs.c2⟩
end Go.Proofs.YtlkcbdinlfeoiabGreatDoor
namespace Go.Proofs.YtlkcbdinlfeoiabGreatDoor
open Go.RowKit

set_option maxHeartbeats 1000000 in
theorem root_ok (q p b n r : Nat) (x : Int) (hr : r < n) (w : World) (c0 : w.cell? ⟨q, 0, none⟩ = some (.pointer (some ⟨p, 0, none⟩))) (c7 : w.cell? ⟨p, 7, none⟩ = some (.slice (some ⟨b, 0, none⟩) n n)) (cr : w.cell? ⟨b, r, none⟩ = some (.int .u64 x)) (hn : n ≤ 5000) :
    Calls Tryz.prog 28 #[.pointer (some ⟨q, 0, none⟩), .int .i64 (r : Int)] w fun ev w' => ev = .returned (.tuple #[.int .u64 x, .nilIface]) ∧ w' = w := by
  have k := hwithin_any r 0 ((n : Int) - 1) w
  rw [show (decide (0 ≤ (r : Int)) && decide ((r : Int) ≤ (n : Int) - 1)) = true by simp; omega] at k
  have hI : (r : Int) < (n : Int) := by omega
  have hI0 : (0 : Int) ≤ (r : Int) := by omega
  go_enter Tryz.func28, Tryz.ntmps28
  go_wp2_with fail
  refine k.mono ?_
  clear k
  rintro ev w1 ⟨rfl, rfl⟩
  go_wp2_with fail
  go_ret2
  exact ⟨rfl, rfl⟩
set_option maxHeartbeats 2000000 in
theorem become_ok (K : FuncId) (caps : Array Value) (hE : ∀ args w, (callFunc K args).run Tryz.prog w = .ok (.enter K args) w) (q p b b' n r : Nat) (x y : Int) (hr : r < n) (hn : n ≤ 5000) (Q : World → Prop) (w : World) (c0 : w.cell? ⟨q, 0, none⟩ = some (.pointer (some ⟨p, 0, none⟩))) (c7 : w.cell? ⟨p, 7, none⟩ = some (.slice (some ⟨b, 0, none⟩) n n)) (cr : w.cell? ⟨b, r, none⟩ = some (.int .u64 x))
    (hK : Calls Tryz.prog K caps w fun ev w' => ev = .returned (.tuple #[.int .u64 y, .nilIface]) ∧ Q w')
    (hQ : ∀ w', Q w' → w'.cell? ⟨q, 0, none⟩ = some (.pointer (some ⟨p, 0, none⟩)) ∧ w'.cell? ⟨p, 7, none⟩ = some (.slice (some ⟨b', 0, none⟩) n n) ∧ (∃ u, w'.cell? ⟨b', r, none⟩ = some u) ∧ w'.frozen? ⟨b', r, none⟩ = false) :
    Calls Tryz.prog 20 #[.pointer (some ⟨q, 0, none⟩), .int .i64 (r : Int), .func (.func K) #[] caps] w fun ev w' => ev = .returned .nilIface ∧ ∃ w1, Q w1 ∧ w' = w1.setCell ⟨b', r, none⟩ (.int .u64 y) := by
  have k := root_ok q p b n r x hr w c0 c7 cr hn
  have hI : (r : Int) < (n : Int) := by omega
  have hI0 : (0 : Int) ≤ (r : Int) := by omega
  have HQ := toHid hQ
  clear c0 c7 cr hQ
  go_enter Tryz.func20, Tryz.ntmps20
  go_wp2_with fail
  refine k.mono ?_
  clear k
  rintro ev w1 ⟨rfl, rfl⟩
  go_wp2_with fail
  refine hK.mono ?_
  clear hK
  rintro ev w2 ⟨rfl, h2⟩
  obtain ⟨d0, d7, ⟨u, du⟩, fz⟩ := HQ.out w2 h2
  have H2 := toHid h2
  clear h2 HQ
  go_wp2_with fail
  go_ret
  exact ⟨rfl, w2, H2.out, rfl⟩
end Go.Proofs.YtlkcbdinlfeoiabGreatDoor
namespace Go.Proofs.YtlkcbdinlfeoiabGreatDoor
open Go.RowKit

set_option maxHeartbeats 1000000 in
theorem left_ok (q p : Nat) (half top : Int) (h0 : 0 ≤ top) (h1 : top ≤ half) (h2 : half ≤ 65536) (w : World) (c0 : w.cell? ⟨q, 0, none⟩ = some (.pointer (some ⟨p, 0, none⟩))) (m0 : w.cell? ⟨p, 0, none⟩ = some (.int .i64 half)) (m5 : w.cell? ⟨p, 5, none⟩ = some (.int .i64 top)) :
    Calls Tryz.prog 79 #[.pointer (some ⟨q, 0, none⟩)] w fun ev w' => ev = .returned (.int .i64 (half - top)) ∧ ∃ k, w' = w.drewN k := by
  go_enter Tryz.func79, Tryz.ntmps79
  go_wp2_with fail
  go_quiet (fail)
  go_wp2_with fail
  go_ret
  exact ⟨rfl, _, rfl⟩
set_option maxHeartbeats 2000000 in
theorem take_ok (q p n : Nat) (half used top : Int) (h0 : 0 ≤ top) (hn : top + (n : Int) ≤ half) (h2 : half ≤ 65536) (hu : used = 0 ∨ used = 1) (w : World) (c0 : w.cell? ⟨q, 0, none⟩ = some (.pointer (some ⟨p, 0, none⟩))) (m0 : w.cell? ⟨p, 0, none⟩ = some (.int .i64 half)) (m4 : w.cell? ⟨p, 4, none⟩ = some (.int .i64 used)) (m5 : w.cell? ⟨p, 5, none⟩ = some (.int .i64 top)) (fz : w.frozen? ⟨p, 5, none⟩ = false) :
    Calls Tryz.prog 47 #[.pointer (some ⟨q, 0, none⟩), .int .i64 (n : Int)] w fun ev w' => ev = .returned (.tuple #[.int .i64 (used * half + top), .nilIface]) ∧ ∃ k, w' = (w.drewN k).setCell ⟨p, 5, none⟩ (.int .i64 (top + (n : Int))) := by
  have kl := fun k => left_ok q p half top h0 (by omega) h2 (w.drewN k) c0 m0 m5
  have hc : ¬ half - top < (n : Int) := by omega
  have hc' : (n : Int) ≤ half - top := by omega
  have e1 : IntKind.i64.wrap (used * half) = used * half := by rw [IntKind.wrap_i64]; rcases hu with rfl | rfl <;> omega
  have e2 : IntKind.i64.wrap (used * half + top) = used * half + top := by rw [IntKind.wrap_i64]; rcases hu with rfl | rfl <;> omega
  have e3 : IntKind.i64.wrap (top + (n : Int)) = top + (n : Int) := by rw [IntKind.wrap_i64]; omega
  have HK := toHid kl
  clear kl hu
  go_enter Tryz.func47, Tryz.ntmps47
  go_wp2_with fail
  refine (HK.out 0).mono ?_
  rintro ev w1 ⟨rfl, k1, rfl⟩
  go_wp2_with fail
  refine (HK.out _).mono ?_
  rintro ev w2 ⟨rfl, k2, rfl⟩
  go_wp2_with fail
  go_quiet (fail)
  go_wp2_with fail
  go_ret2
  exact ⟨rfl, _, rfl⟩
end Go.Proofs.YtlkcbdinlfeoiabGreatDoor
namespace Go.Proofs.YtlkcbdinlfeoiabGreatDoor
open Go.RowKit

variable {q p bW bR bC nW nR nC : Nat} {half old card used top oldTop tn sr : Int} {cW cR cC : Array Value} {w w' : World}
theorem HeapIs.below (H : HeapIs q p bW bR bC nW nR nC half old card used top oldTop tn sr cW cR cC w) (hb : Below w.heap.size w w') : HeapIs q p bW bR bC nW nR nC half old card used top oldTop tn sr cW cR cC w' :=
  ⟨(hb.block _ (lt_of_heap H.hq)).trans H.hq, (hb.block _ (lt_of_heap H.hp)).trans H.hp, (hb.block _ (lt_of_heap H.hW)).trans H.hW, (hb.block _ (lt_of_heap H.hR)).trans H.hR, (hb.block _ (lt_of_heap H.hC)).trans H.hC⟩
theorem HeapIs.ne (H : HeapIs q p bW bR bC nW nR nC half old card used top oldTop tn sr cW cR cC w) : q ≠ p ∧ q ≠ bW ∧ q ≠ bR ∧ q ≠ bC ∧ p ≠ bW ∧ p ≠ bR ∧ p ≠ bC ∧ bW ≠ bC ∧ bR ≠ bC := by
  refine ⟨?_, ?_, ?_, ?_, ?_, ?_, ?_, ?_, ?_⟩
  · rintro rfl; have := H.hq.symm.trans H.hp; simp at this
  · rintro rfl; have := H.hq.symm.trans H.hW; simp at this
  · rintro rfl; have := H.hq.symm.trans H.hR; simp at this
  · rintro rfl; have := H.hq.symm.trans H.hC; simp at this
  · rintro rfl; have := H.hp.symm.trans H.hW; simp at this
  · rintro rfl; have := H.hp.symm.trans H.hR; simp at this
  · rintro rfl; have := H.hp.symm.trans H.hC; simp at this
  · rintro rfl; have := H.hW.symm.trans H.hC; simp at this
  · rintro rfl; have := H.hR.symm.trans H.hC; simp at this
theorem HeapIs.setTop (H : HeapIs q p bW bR bC nW nR nC half old card used top oldTop tn sr cW cR cC w) (v : Int) : HeapIs q p bW bR bC nW nR nC half old card used v oldTop tn sr cW cR cC (w.setCell ⟨p, 5, none⟩ (.int .i64 v)) := by
  obtain ⟨n1, n2, n3, n4, n5, n6, n7, n8, n9⟩ := H.ne
  exact ⟨(heap_set _ _ _ _ _ n1).trans H.hq, heap_set_same H.hp, (heap_set _ _ _ _ _ n5.symm).trans H.hW, (heap_set _ _ _ _ _ n6.symm).trans H.hR, (heap_set _ _ _ _ _ n7.symm).trans H.hC⟩
theorem HeapIs.setRoot (H : HeapIs q p bW bR bC nW nR nC half old card used top oldTop tn sr cW cR cC w) (hWR : bW ≠ bR) (r : Nat) (v : Value) : HeapIs q p bW bR bC nW nR nC half old card used top oldTop tn sr cW (cR.setIfInBounds r v) cC (w.setCell ⟨bR, r, none⟩ v) := by
  obtain ⟨n1, n2, n3, n4, n5, n6, n7, n8, n9⟩ := H.ne
  exact ⟨(heap_set _ _ _ _ _ n3).trans H.hq, (heap_set _ _ _ _ _ n6).trans H.hp, (heap_set _ _ _ _ _ hWR).trans H.hW, heap_set_same H.hR, (heap_set _ _ _ _ _ n9.symm).trans H.hC⟩
theorem HeapIs.setWord (H : HeapIs q p bW bR bC nW nR nC half old card used top oldTop tn sr cW cR cC w) (hWR : bW ≠ bR) (r : Nat) (v : Value) : HeapIs q p bW bR bC nW nR nC half old card used top oldTop tn sr (cW.setIfInBounds r v) cR cC (w.setCell ⟨bW, r, none⟩ v) := by
  obtain ⟨n1, n2, n3, n4, n5, n6, n7, n8, n9⟩ := H.ne
  exact ⟨(heap_set _ _ _ _ _ n2).trans H.hq, (heap_set _ _ _ _ _ n5).trans H.hp, heap_set_same H.hW, (heap_set _ _ _ _ _ hWR.symm).trans H.hR, (heap_set _ _ _ _ _ n8.symm).trans H.hC⟩
theorem HeapIs.words (H : HeapIs q p bW bR bC nW nR nC half old card used top oldTop tn sr cW cR cC w) (hWR : bW ≠ bR) (c : Array Value) (ha : Apart bW w w') (hg : w'.heap[bW]? = some (.cells c 50)) : HeapIs q p bW bR bC nW nR nC half old card used top oldTop tn sr c cR cC w' := by
  obtain ⟨n1, n2, n3, n4, n5, n6, n7, n8, n9⟩ := H.ne
  exact ⟨(ha.block _ n2).trans H.hq, (ha.block _ n5).trans H.hp, hg, (ha.block _ hWR.symm).trans H.hR, (ha.block _ n8.symm).trans H.hC⟩
theorem HeapIs.cells (H : HeapIs q p bW bR bC nW nR nC half old card used top oldTop tn sr cW cR cC w) : w.cell? ⟨q, 0, none⟩ = some (.pointer (some ⟨p, 0, none⟩)) ∧ w.cell? ⟨p, 0, none⟩ = some (.int .i64 half) ∧ w.cell? ⟨p, 3, none⟩ = some (.slice (some ⟨bW, 0, none⟩) nW nW) ∧ w.cell? ⟨p, 4, none⟩ = some (.int .i64 used) ∧ w.cell? ⟨p, 5, none⟩ = some (.int .i64 top) ∧ w.cell? ⟨p, 7, none⟩ = some (.slice (some ⟨bR, 0, none⟩) nR nR) := by
  refine ⟨?_, ?_, ?_, ?_, ?_, ?_⟩
  · rw [cell_of_row _ _ _ _ _ _ H.hq]; rfl
  all_goals (rw [cell_of_row _ _ _ _ _ _ H.hp]; rfl)
theorem notFrozen {b o : Nat} {c : Array Value} {t : TypeId} (h : w.heap[b]? = some (.cells c t)) : w.frozen? ⟨b, o, none⟩ = false := by simp [World.frozen?, h]
end Go.Proofs.YtlkcbdinlfeoiabGreatDoor
