/- slices.Repeat of a word, by a contract. -/
import Derived.Test.YtlkcbdinlfeoiabGreatDoorKnBA
import Derived.Laws.CopyOwn
import Derived.Deep.RegionLaw
import Derived.Test.YtlkcbdinlfeoiabGreatDoorKnAA
import Derived.Test.YtlkcbdinlfeoiabGreatDoorHpE
import Derived.Test.YtlkcbdinlfeoiabGreatDoorMemD
import Derived.Test.YtlkcbdinlfeoiabGreatDoorKnAE
import Derived.Test.YtlkcbdinlfeoiabGreatDoorKnAO
namespace Go.Proofs.YtlkcbdinlfeoiabGreatDoor
open Go.RowKit Go.Shelf

theorem wordInfo : (Tryz.prog.info? 50).map (·.size) = some 1 := by kernel_rfl
theorem splice_rep {v : Value} {cur : List Value} {c m : Nat} (h : cur.take c = List.replicate c v) : (splice cur c (List.replicate m v)).take (c + m) = List.replicate (c + m) v := by
  unfold splice
  rw [h, ← List.append_assoc, List.take_append_of_le_length (by simp), List.take_of_length_le (by simp), List.replicate_append_replicate]
set_option maxHeartbeats 4000000 in
set_option maxRecDepth 100000 in
theorem repeat_any (v : Int) (n : Nat) (hn : n ≤ 5000) (qx ox : Nat) (w : World) (hx : w.cell? ⟨qx, ox, none⟩ = some (.int .u64 v)) :
    Calls Tryz.prog 19 #[.slice (some ⟨qx, ox, none⟩) 1 1, .int .i64 (n : Int)] w fun ev w' => ∃ g, ev = .returned (.slice (some ⟨g, 0, none⟩) n n) ∧ w.heap.size ≤ g ∧ w'.heap[g]? = some (.cells (Array.replicate n (.int .u64 v)) 50) ∧ Below w.heap.size w w' := by
  have km := hbits_Mul 1 n (by decide) (by omega) w
  rw [show 1 * n / 18446744073709551616 = 0 by omega, show 1 * n % 18446744073709551616 = n by omega] at km
  have kk := fun W => make_words n (by omega) (n : Int) rfl W
  have HX := toHid hx
  clear hx
  go_enter Tryz.func19, Tryz.ntmps19
  go_wp2_with fail
  refine km.mono ?_
  rintro ev w1 ⟨rfl, hw1⟩
  rw [hw1]
  clear hw1 w1 km
  go_upto_region 7 with fail
  obtain ⟨w1, hw1⟩ : ∃ w1, w1 = w.alloc (.cells (Array.replicate n (.int .u64 0)) 50) := ⟨_, rfl⟩
  obtain ⟨q, hq⟩ : ∃ q, q = w.heap.size := ⟨_, rfl⟩
  have ob : w1.heap[q]? = some (.cells (List.replicate n (Value.int .u64 0)).toArray 50 (0, 0)) := by rw [hw1, hq, List.toArray_replicate]; exact heap_alloc_new _ _
  have b1 : Below w.heap.size w w1 := by rw [hw1]; exact (Below.refl _ _).alloc (Nat.le_refl _) _
  have hqw : w.heap.size ≤ q := by omega
  rw [← hw1, ← hq]
  have hx1 := (b1.cell (p := ⟨qx, ox, none⟩) (lt_of_cell HX.out)).trans HX.out
  obtain ⟨m0, hm0⟩ : ∃ m0, m0 = Nat.min 1 n := ⟨_, rfl⟩
  have HOB := toHid ob
  have HB1 := toHid b1
  have HX1 := toHid hx1
  have HM0 := toHid hm0
  clear hw1 hq ob b1 hx1 kk hm0
  have hn0 : (0 : Int) ≤ (n : Int) := by omega
  go_wp2_with (refine wpList_copy_splice rfl _ _ _ _ rfl 50 Tryz.underlying48 wordInfo (some ⟨q, 0, none⟩) (some ⟨qx, ox, none⟩) n n 1 1 rfl rfl q 0 (List.replicate n (Value.int .u64 0)) 50 HOB.out (List.replicate m0 (Value.int .u64 v)) (by rw [List.length_replicate, HM0.out]) (fun _ => ⟨rfl, _, rfl, fun j u hj => by
      have hj0 : j = 0 := by
        have := (List.getElem?_eq_some_iff.1 hj).1
        rw [List.length_replicate, HM0.out] at this
        have h1 : Nat.min 1 n ≤ 1 := Nat.min_le_left _ _
        omega
      subst hj0
      rw [List.getElem?_replicate] at hj
      split at hj
      · cases hj; exact HX1.out
      · cases hj⟩) (by rw [List.length_replicate, List.length_replicate, HM0.out]; have h1 : Nat.min 1 n ≤ n := Nat.min_le_right _ _; omega) (fun u hu => by rw [List.eq_of_mem_replicate hu]; rfl) w.heap.size w HB1.out hqw ?_; intro w2 hg2 hb2)
  have h20 : splice (List.replicate n (Value.int .u64 0)) 0 (List.replicate m0 (Value.int .u64 v)) = List.replicate m0 (Value.int .u64 v) ++ List.replicate (n - m0) (Value.int .u64 0) := by
    unfold splice
    simp
  have hm0n : m0 ≤ n := by rw [HM0.out]; exact Nat.min_le_right _ _
  have hm01 : n = 0 ∨ 1 ≤ m0 := by
    rcases Nat.eq_zero_or_pos n with h | h
    · exact Or.inl h
    · refine Or.inr ?_
      rw [HM0.out]
      exact Nat.le_min.2 ⟨Nat.le_refl _, h⟩
  have HSTART : Hid (∃ cur : List Value, w2.heap[q]? = some (.cells cur.toArray 50 (0, 0)) ∧ cur.length = n ∧ cur.take m0 = List.replicate m0 (Value.int .u64 v)) := by
    refine ⟨_, hg2.out, ?_, ?_⟩
    · rw [h20]; simp; omega
    · rw [h20, List.take_append_of_le_length (by simp), List.take_of_length_le (by simp)]
  clear h20 hg2
  go_loopg [8] (n + 1 - m0) (fun gk vc wr => ∃ (c : Nat), gk = n + 1 - c ∧ c ≤ n ∧ (n = 0 ∨ 1 ≤ c) ∧ vc = .int .i64 (c : Int) ∧ Below w.heap.size w wr ∧ Hid (∃ cur : List Value, wr.heap[q]? = some (.cells cur.toArray 50 (0, 0)) ∧ cur.length = n ∧ cur.take c = List.replicate c (Value.int .u64 v)))
  case atStart => exact ⟨m0, rfl, hm0n, hm01, by simp, hb2, HSTART.out⟩
  case round =>
    obtain ⟨c, hgk, hc, hc1, rfl, hb, hcur⟩ := hrel
    have HG := toHid hgk
    have hc0 : (0 : Int) ≤ (c : Int) := by omega
    clear hgk
    by_cases hlt : c < n
    · have hI : (c : Int) < (n : Int) := by omega
      have hcn : ¬ n = c := by omega
      have hcn' : ¬ c = n := by omega
      have hcle : (c : Int) ≤ (n : Int) := by omega
      obtain ⟨cur, ho, hl, ht⟩ := hcur.out
      obtain ⟨m, hm⟩ : ∃ m, m = Nat.min c (n - c) := ⟨_, rfl⟩
      have hm1 : 1 ≤ m := by rw [hm]; exact Nat.le_min.2 ⟨by omega, by omega⟩
      have hm2' : m ≤ n - c := by rw [hm]; exact Nat.min_le_right _ _
      have hm2 : c + m ≤ n := by omega
      have hm3 : m ≤ c := by rw [hm]; exact Nat.min_le_left _ _
      have HCC : Hid (∀ j u, (List.replicate m (Value.int .u64 v))[j]? = some u → wr.cell? ((⟨q, 0, none⟩ : Addr).add j) = some u) := fun j u hj => by
        have hjm : j < m := by simpa using (List.getElem?_eq_some_iff.1 hj).1
        rw [List.getElem?_replicate, if_pos hjm] at hj
        cases hj
        have e : (⟨q, 0, none⟩ : Addr).add j = ⟨q, j, none⟩ := by unfold Addr.add; split <;> simp_all
        rw [e, cell_of_row _ _ _ _ _ _ ho, ← Array.getElem?_toList]
        have h1 := congrArg (fun l => l[j]?) ht
        simp only [List.getElem?_take, List.getElem?_replicate, if_pos (show j < c by omega)] at h1
        exact h1
      have HB := toHid hb
      have HOO := toHid ho
      have HTT : Hid ((splice cur c (List.replicate m (Value.int .u64 v))).take (c + m) = List.replicate (c + m) (Value.int .u64 v)) := splice_rep ht
      have HLL : Hid ((splice cur c (List.replicate m (Value.int .u64 v))).length = n) := by show _ = _; rw [length_splice _ _ _ (by simp; omega), hl]
      have HMM := toHid hm
      have hlc : c + m ≤ cur.length := by omega
      clear hm ht hl ho hb hcur
      go_upto_region 9 with fail
      go_region_held3 (fun _ => True) (exact trivial) (first | (refine step_copy_splice (by rfl) _ _ _ _ (by rfl) 50 Tryz.underlying48 wordInfo (some ⟨q, c, none⟩) (some ⟨q, 0, none⟩) (n - c) (n - c) c n (by rfl) (by rfl) q c cur 50 HOO.out (List.replicate m (Value.int .u64 v)) (by rw [List.length_replicate, HMM.out]) (fun _ => ⟨rfl, _, rfl, HCC.out⟩) (by rw [List.length_replicate]; omega) (fun u hu => by rw [List.eq_of_mem_replicate hu]; rfl) w.heap.size w (HB.out.drew) hqw ?_; intro w3 hg3 hb3))
      have hwr : IntKind.i64.wrap ((c : Int) + (m : Int)) = ((c + m : Nat) : Int) := by rw [IntKind.wrap_i64]; omega
      rw [hwr]
      clear hwr
      go_wp2_with fail
      go_roundg (n + 1 - (c + m))
      case measure => have := HG.out; omega
      case rel => exact ⟨c + m, rfl, hm2, Or.inr (by omega), rfl, hb3, ⟨_, hg3.out, HLL.out, HTT.out⟩⟩
    · have hI : ¬ (c : Int) < (n : Int) := by omega
      have HE : Hid (wr.heap[q]? = some (.cells (Array.replicate n (.int .u64 v)) 50)) := by
        obtain ⟨cur, ho, hl, ht⟩ := hcur.out
        have hcn : c = n := by omega
        rw [hcn, List.take_of_length_le (by omega)] at ht
        rw [ht, List.toArray_replicate] at ho
        exact ho
      have HB := toHid hb
      clear hcur hb
      go_wp2_with fail
      go_ret
      exact ⟨q, rfl, hqw, HE.out, HB.out⟩
end Go.Proofs.YtlkcbdinlfeoiabGreatDoor
namespace Go.Proofs.YtlkcbdinlfeoiabGreatDoor
open Go.RowKit

/-- Numbers that New takes. -/
def heapOK (half old card tn rs : Int) : Prop := numsOK half old card ∧ 0 ≤ tn ∧ tn ≤ 15 ∧ 0 ≤ rs ∧ rs ≤ 5000
end Go.Proofs.YtlkcbdinlfeoiabGreatDoor
namespace Go.Proofs.YtlkcbdinlfeoiabGreatDoor
open Go.RowKit

/-- A heap in memory, block by block: the heap's own, its memory's, words, roots, cards. -/
structure HeapIs (q p bW bR bC nW nR nC : Nat) (half old card used top oldTop tn sr : Int) (cW cR cC : Array Value) (w : World) : Prop where
  hq : w.heap[q]? = some (.cells #[.pointer (some ⟨p, 0, none⟩), .int .i64 tn, .int .i64 sr] 58)
  hp : w.heap[p]? = some (.cells #[.int .i64 half, .int .i64 old, .int .i64 card, .slice (some ⟨bW, 0, none⟩) nW nW, .int .i64 used, .int .i64 top, .int .i64 oldTop, .slice (some ⟨bR, 0, none⟩) nR nR, .slice none 0 0, .slice none 0 0, .slice (some ⟨bC, 0, none⟩) nC nC] 54)
  hW : w.heap[bW]? = some (.cells cW 50)
  hR : w.heap[bR]? = some (.cells cR 50)
  hC : w.heap[bC]? = some (.cells cC 4)
theorem newW_block (half old card : Int) (nW nC : Nat) (w : World) (q : Nat) : ((newW half old card nW nC w).drewN q).heap[w.heap.size]? = some (.cells #[.int .i64 half, .int .i64 old, .int .i64 card, .slice (some ⟨w.heap.size + 1, 0, none⟩) nW nW, .int .i64 0, .int .i64 0, .int .i64 0, .slice none 0 0, .slice none 0 0, .slice none 0 0, .slice (some ⟨w.heap.size + 2, 0, none⟩) nC nC] 54) := by
  exact ((below_drewN (((Below.refl (w.heap.size + 1) _).alloc (by simp) _).alloc (by simp) _)).block w.heap.size (by omega)).trans (heap_alloc_new w _)
/-- A new heap: where its blocks lie. -/
def NewPost (half old card tn : Int) (nW nC n : Nat) (w : World) (ev : Ending) (w' : World) : Prop := ∃ q p g, ev = .returned (.tuple #[.pointer (some ⟨q, 0, none⟩), .nilIface]) ∧ w.heap.size ≤ p ∧ p + 2 < g ∧ g < q ∧ Below w.heap.size w w' ∧
  HeapIs q p (p + 1) g (p + 2) nW n nC half old card 0 0 0 tn 0 (Array.replicate nW (.int .u64 0)) (Array.replicate n (.int .u64 2)) (Array.replicate nC (.bool false)) w'
set_option maxHeartbeats 2000000 in
theorem hnew_ok (half old card tn : Int) (n nW nC : Nat) (hW : (nW : Int) = 2 * half + old) (hC : (nC : Int) = (old + card - 1) / card) (H : heapOK half old card tn n) (w : World) :
    Calls Tryz.prog 6 #[.agg #[.int .i64 half, .int .i64 old, .int .i64 card, .int .i64 tn], .int .i64 (n : Int)] w (NewPost half old card tn nW nC n w) := by
  obtain ⟨w1, hw1⟩ : ∃ w1, w1 = w.alloc (.cells #[.int .i64 half, .int .i64 old, .int .i64 card, .int .i64 tn] 30) := ⟨_, rfl⟩
  have b1 : Below w.heap.size w w1 := by rw [hw1]; exact (Below.refl _ _).alloc (Nat.le_refl _) _
  have hn1 : w1.heap[w.heap.size]? = some (.cells #[.int .i64 half, .int .i64 old, .int .i64 card, .int .i64 tn] 30) := by rw [hw1]; exact heap_alloc_new _ _
  have HW1 := toHid hw1
  obtain ⟨hn, t0, t1, r0, r1⟩ := H
  have kn := new_ok half old card hn nW nC hW hC w1
  rw [hw1] at kn
  clear hw1
  go_enter Tryz.func6, Tryz.ntmps6
  go_wp2_with fail
  rw [← HW1.out] at kn ⊢
  refine kn.mono ?_
  clear kn
  rintro ev w2 ⟨rfl, q2, rfl⟩
  obtain ⟨b2, M2, W2, C2⟩ := newW_facts half old card nW nC w1 q2
  have P2 := newW_block half old card nW nC w1 q2
  have m7 := M2.c7
  generalize (newW half old card nW nC w1).drewN q2 = w2 at *
  have b12 := b1.trans (b2.mono b1.size)
  have hn2 := (b2.block _ (lt_of_heap hn1)).trans hn1
  have c3 : w2.cell? ⟨w.heap.size, 3, none⟩ = some (.int .i64 tn) := by rw [cell_of_row _ _ 3 _ _ _ hn2]; rfl
  have HB := toHid b12
  have HP2 := toHid P2
  have HLP : Hid (w.heap.size < w1.heap.size) := lt_of_heap hn1
  have HW2 := toHid W2
  have HC2 := toHid C2
  clear b1 hn1 b2 b12 hn2 M2 W2 C2 P2
  have ht' : (decide (0 ≤ tn) && decide (tn ≤ 15)) = true := by simp [t0, t1]
  have hr' : (decide (0 ≤ (n : Int)) && decide ((n : Int) ≤ 5000)) = true := by simp; omega
  have k1 := fun w => hwithin_any tn 0 15 w
  have k2 := fun w => hwithin_any n 0 5000 w
  rw [ht'] at k1
  rw [hr'] at k2
  clear ht' hr'
  go_wp2_with fail
  refine (k1 _).mono ?_
  rintro ev w3 ⟨rfl, rfl⟩
  go_wp2_with fail
  refine (k2 _).mono ?_
  rintro ev w3 ⟨rfl, rfl⟩
  clear k1 k2
  go_wp2_with fail
  have kr := repeat_any 2 n (by omega) w3.heap.size 0 (w3.alloc (.cells #[.int .u64 2] 50)) (by rw [cell_of_row _ _ 0 _ _ _ (heap_alloc_new _ _)]; rfl)
  obtain ⟨p, hp⟩ : ∃ p, p = w1.heap.size := ⟨_, rfl⟩
  rw [← hp] at HLP HP2 HW2 HC2 m7 ⊢
  have HLG : Hid (p + 2 < w3.heap.size) := lt_of_heap HC2.out
  clear hp
  refine kr.mono ?_
  clear kr
  rintro ev w4 ⟨g, rfl, hg, hgr, b4⟩
  have b34 : Below w3.heap.size w3 w4 := ((Below.refl _ _).alloc (Nat.le_refl _) _).trans (b4.mono (by simp))
  have hg3 : w3.heap.size < g := by simp at hg; omega
  have p4 := (b34.block p (by have := HLG.out; omega)).trans HP2.out
  have W4 := toHid ((b34.block (p + 1) (by have := HLG.out; omega)).trans HW2.out)
  have C4 := toHid ((b34.block (p + 2) (by have := HLG.out; omega)).trans HC2.out)
  have c34 := (b34.cell (p := ⟨w.heap.size, 3, none⟩) (by have := HLG.out; have := HLP.out; show w.heap.size < _; omega)).trans c3
  have c74 := (b34.cell (p := ⟨p, 7, none⟩) (by have := HLG.out; show p < _; omega)).trans m7
  have HG := toHid hgr
  have HB4 : Hid (Below w.heap.size w w4) := HB.out.trans (b34.mono HB.out.size)
  clear hg hgr b4 b34 c3 m7
  have HP4 := toHid p4
  clear p4
  have fz : w4.frozen? ⟨p, 7, none⟩ = false := by have h := HP4.out; simp [World.frozen?, h]
  go_upto_region 7 with fail
  obtain ⟨w5, hw5⟩ : ∃ w5, w5 = w4.setCell ⟨p, 7, none⟩ (.slice (some ⟨g, 0, none⟩) n n) := ⟨_, rfl⟩
  have hlp := HLP.out
  have hlg := HLG.out
  have P5 : Hid (w5.heap[p]? = some (.cells #[.int .i64 half, .int .i64 old, .int .i64 card, .slice (some ⟨p + 1, 0, none⟩) nW nW, .int .i64 0, .int .i64 0, .int .i64 0, .slice (some ⟨g, 0, none⟩) n n, .slice none 0 0, .slice none 0 0, .slice (some ⟨p + 2, 0, none⟩) nC nC] 54)) := by
    show w5.heap[p]? = _
    rw [hw5]; exact (heap_set_same HP4.out).trans rfl
  have W5 : Hid (w5.heap[p + 1]? = some (.cells (Array.replicate nW (.int .u64 0)) 50)) := by show w5.heap[p + 1]? = _; rw [hw5, heap_set _ _ _ _ _ (by omega)]; exact W4.out
  have C5 : Hid (w5.heap[p + 2]? = some (.cells (Array.replicate nC (.bool false)) 4)) := by show w5.heap[p + 2]? = _; rw [hw5, heap_set _ _ _ _ _ (by omega)]; exact C4.out
  have G5 : Hid (w5.heap[g]? = some (.cells (Array.replicate n (.int .u64 2)) 50)) := by show w5.heap[g]? = _; rw [hw5, heap_set _ _ _ _ _ (by omega)]; exact HG.out
  have B5 : Hid (Below w.heap.size w w5) := by rw [hw5]; exact HB4.out.setCell (by show w.heap.size ≤ p; omega) _
  have c35 : w5.cell? ⟨w.heap.size, 3, none⟩ = some (.int .i64 tn) := by
    have h := ((Below.refl p w4).setCell (p := ⟨p, 7, none⟩) (Nat.le_refl p) (.slice (some ⟨g, 0, none⟩) n n)).cell (p := ⟨w.heap.size, 3, none⟩) hlp
    rw [hw5]; exact h.trans c34
  rw [← hw5]
  clear hw5 fz c34 c74 HB4 HG C4 W4 HP4
  go_wp2_with fail
  have ba : Below w5.heap.size w5 (w5.alloc (.cells #[.pointer (some ⟨p, 0, none⟩), .int .i64 tn, .int .i64 0] 58)) := (Below.refl _ _).alloc (Nat.le_refl _) _
  go_ret2
  exact ⟨w5.heap.size, p, g, rfl, by omega, by omega, lt_of_heap G5.out, B5.out.alloc B5.out.size _, heap_alloc_new _ _, (ba.block p (lt_of_heap P5.out)).trans P5.out, (ba.block _ (lt_of_heap W5.out)).trans W5.out, (ba.block g (lt_of_heap G5.out)).trans G5.out, (ba.block _ (lt_of_heap C5.out)).trans C5.out⟩
end Go.Proofs.YtlkcbdinlfeoiabGreatDoor
namespace Go.Proofs.YtlkcbdinlfeoiabGreatDoor
open Go.RowKit

theorem HeapIs.at {q p bW bR bC nW nR nC : Nat} {half old card used top oldTop tn sr : Int} {cW cR cC : Array Value} {w : World} (h : HeapIs q p bW bR bC nW nR nC half old card used top oldTop tn sr cW cR cC w) : HeapAt q p tn sr w :=
  ⟨lt_of_heap h.hq, by rw [cell_of_row _ _ 0 _ _ _ h.hq]; rfl, by rw [cell_of_row _ _ 1 _ _ _ h.hq]; rfl, by rw [cell_of_row _ _ 2 _ _ _ h.hq]; rfl⟩
theorem HeapIs.rep {q p bW bR bC : Nat} {half old card used top oldTop tn sr : Int} {W R : List Int} {C : List Bool} {w : World} (h : HeapIs q p bW bR bC W.length R.length C.length half old card used top oldTop tn sr (wordsV W).toArray (wordsV R).toArray (boolsV C).toArray w) :
    RepP p ⟨half, old, card, used, top, oldTop, W, R, [], [], C⟩ w := by
  refine ⟨.slice (some ⟨bW, 0, none⟩) W.length W.length, .slice (some ⟨bR, 0, none⟩) R.length R.length, .slice none 0 0, .slice none 0 0, .slice (some ⟨bC, 0, none⟩) C.length C.length, lt_of_heap h.hp, ?_, ?_, ?_, ?_, ?_, ?_⟩
  · constructor <;> (rw [cell_of_row _ _ _ _ _ _ h.hp]; rfl)
  · refine ⟨_, _, rfl, Nat.le_refl _, fun _ => ⟨bW, rfl, lt_of_heap h.hW, fun j u hj => ?_⟩⟩
    rw [cell_of_row _ _ j _ _ _ h.hW, List.getElem?_toArray]
    exact hj
  · refine ⟨_, _, rfl, Nat.le_refl _, fun _ => ⟨bR, 0, rfl, lt_of_heap h.hR, fun j u hj => ?_⟩⟩
    rw [Nat.zero_add, cell_of_row _ _ j _ _ _ h.hR, List.getElem?_toArray]
    exact hj
  · exact ⟨none, 0, rfl, Nat.le_refl _, fun h => absurd h (by simp)⟩
  · exact ⟨none, 0, rfl, Nat.le_refl _, fun h => absurd h (by simp)⟩
  · refine ⟨_, _, rfl, Nat.le_refl _, fun _ => ⟨bC, rfl, lt_of_heap h.hC, fun j u hj => ?_⟩⟩
    rw [cell_of_row _ _ j _ _ _ h.hC, List.getElem?_toArray]
    exact hj
/-- A new heap's memory. -/
def newM (half old card : Int) (nW nC n : Nat) : MD := ⟨half, old, card, 0, 0, 0, List.replicate nW 0, List.replicate n 2, [], [], List.replicate nC false⟩
theorem newM_shape {half old card : Int} {nW nC n : Nat} (hn : numsOK half old card) (hW : (nW : Int) = 2 * half + old) (hC : (nC : Int) = (old + card - 1) / card) : (newM half old card nW nC n).Shape [] := by
  have e1 : (newM half old card nW nC n).n1 = (newM half old card nW nC n).n0 := by simp [MD.n1, MD.n0, newM]
  have e2 : (newM half old card nW nC n).m1 = (newM half old card nW nC n).m0 := by simp [MD.m1, MD.m0, newM]
  have hn' := hn
  unfold numsOK at hn'
  refine ⟨⟨hn, by simpa [newM] using hW, by simpa [newM] using hC, by simp [newM], by simp [newM], by simp [newM], ?_, by simp [newM], ?_⟩, ?_, ?_, ?_⟩
  · show (0 : Int) ≤ half; omega
  · show (0 : Int) ≤ old; omega
  · unfold MD.objs; rw [e1, e2, Nat.sub_self, Nat.sub_self]; rfl
  · unfold MD.holdB; rw [e1, e2, Nat.sub_self, Nat.sub_self]; rfl
  · unfold MD.restB
    have : (newM half old card nW nC n).R.all (fieldB (newM half old card nW nC n).W.length (fun i => decide (i ∈ ([] : List Nat)))) = true := by
      rw [List.all_eq_true]
      intro x hx
      rw [(List.mem_replicate.1 hx).2]
      rfl
    rw [this]
    rfl
theorem newM_cards (half old card : Int) (nW nC n : Nat) : (newM half old card nW nC n).cardsB = true := by
  have e2 : (newM half old card nW nC n).m1 = (newM half old card nW nC n).m0 := by simp [MD.m1, MD.m0, newM]
  unfold MD.cardsB
  rw [e2, Nat.sub_self]
  rfl
theorem newM_64 (half old card : Int) (nW nC n : Nat) : MD64 (newM half old card nW nC n) :=
  ⟨(fun x hx => by rw [(List.mem_replicate.1 hx).2]; decide), (fun x hx => by rw [(List.mem_replicate.1 hx).2]; decide), (fun x hx => by cases hx), (fun x hx => by cases hx)⟩
end Go.Proofs.YtlkcbdinlfeoiabGreatDoor
namespace Go.Proofs.YtlkcbdinlfeoiabGreatDoor
open Go.RowKit

/-- A cell that holds nothing. -/
def cell0 : Value := .agg #[.int .i64 0, .int .i64 0, .pointer none]
end Go.Proofs.YtlkcbdinlfeoiabGreatDoor
namespace Go.Proofs.YtlkcbdinlfeoiabGreatDoor
open Go.RowKit

/-- A model in memory, whose roots hold nothing. -/
structure ModelAt (q b n : Nat) (w : World) : Prop where
  lq : q < w.heap.size
  lb : b < w.heap.size
  c0 : w.cell? ⟨q, 0, none⟩ = some (.slice (some ⟨b, 0, none⟩) n n)
  k0 : ∀ k < n, w.cell? ⟨b, k * 3, none⟩ = some (.int .i64 0)
  k1 : ∀ k < n, w.cell? ⟨b, k * 3 + 1, none⟩ = some (.int .i64 0)
  k2 : ∀ k < n, w.cell? ⟨b, k * 3 + 2, none⟩ = some (.pointer none)
theorem ModelAt.below {q b n : Nat} {w w' : World} (h : ModelAt q b n w) (hb : Below w.heap.size w w') : ModelAt q b n w' where
  lq := Nat.lt_of_lt_of_le h.lq hb.size
  lb := Nat.lt_of_lt_of_le h.lb hb.size
  c0 := (hb.cell (p := ⟨q, 0, none⟩) h.lq).trans h.c0
  k0 k hk := (hb.cell (p := ⟨b, k * 3, none⟩) h.lb).trans (h.k0 k hk)
  k1 k hk := (hb.cell (p := ⟨b, k * 3 + 1, none⟩) h.lb).trans (h.k1 k hk)
  k2 k hk := (hb.cell (p := ⟨b, k * 3 + 2, none⟩) h.lb).trans (h.k2 k hk)
end Go.Proofs.YtlkcbdinlfeoiabGreatDoor
namespace Go.Proofs.YtlkcbdinlfeoiabGreatDoor
open Go.RowKit

/-- What the law stands on: the errors, the tables. -/
structure HEnv (a : Nat → Addr) (w : World) : Prop where
  errs : MErr a w
  tab : TabbedM w
  tz : Tz16 w
theorem HEnv.below {a : Nat → Addr} {w w' : World} (h : HEnv a w) (hb : Below w.heap.size w w') : HEnv a w' := ⟨h.errs.below hb, h.tab.below hb (Nat.le_refl _), h.tz.below hb (Nat.le_refl _)⟩
theorem HEnv.me {a : Nat → Addr} {w : World} (h : HEnv a w) : MErr3 a w := ⟨h.errs.c1, h.errs.c2, h.errs.c4⟩
theorem HEnv.we {a : Nat → Addr} {w : World} (h : HEnv a w) : WErr a w := ⟨h.errs.c1, h.errs.c2⟩
end Go.Proofs.YtlkcbdinlfeoiabGreatDoor
namespace Go.Proofs.YtlkcbdinlfeoiabGreatDoor
open Go.RowKit

set_option maxHeartbeats 1000000 in
theorem root_ok (q p b n r : Nat) (x : Int) (hr : r < n) (w : World) (c0 : w.cell? ⟨q, 0, none⟩ = some (.pointer (some ⟨p, 0, none⟩))) (c7 : w.cell? ⟨p, 7, none⟩ = some (.slice (some ⟨b, 0, none⟩) n n)) (cr : w.cell? ⟨b, r, none⟩ = some (.int .u64 x)) (hn : n ≤ 5000) :
    Calls Tryz.prog 28 #[.pointer (some ⟨q, 0, none⟩), .int .i64 (r : Int)] w fun ev w' => ev = .returned (.tuple #[.int .u64 x, .nilIface]) ∧ w' = w := by
  have k := hwithin_any r 0 ((n : Int) - 1) w
  rw [show (decide (0 ≤ (r : Int)) && decide ((r : Int) ≤ (n : Int) - 1)) = true by simp; omega] at k
  have hI : (r : Int) < (n : Int) := by omega
  have hI0 : (0 : Int) ≤ (r : Int) := by omega
  go_enter Tryz.func28, Tryz.ntmps28
  go_wp2_with fail
  refine k.mono ?_
  clear k
  rintro ev w1 ⟨rfl, rfl⟩
  go_wp2_with fail
  go_ret2
  exact ⟨rfl, rfl⟩
set_option maxHeartbeats 2000000 in
theorem become_ok (K : FuncId) (caps : Array Value) (hE : ∀ args w, (callFunc K args).run Tryz.prog w = .ok (.enter K args) w) (q p b b' n r : Nat) (x y : Int) (hr : r < n) (hn : n ≤ 5000) (Q : World → Prop) (w : World) (c0 : w.cell? ⟨q, 0, none⟩ = some (.pointer (some ⟨p, 0, none⟩))) (c7 : w.cell? ⟨p, 7, none⟩ = some (.slice (some ⟨b, 0, none⟩) n n)) (cr : w.cell? ⟨b, r, none⟩ = some (.int .u64 x))
    (hK : Calls Tryz.prog K caps w fun ev w' => ev = .returned (.tuple #[.int .u64 y, .nilIface]) ∧ Q w')
    (hQ : ∀ w', Q w' → w'.cell? ⟨q, 0, none⟩ = some (.pointer (some ⟨p, 0, none⟩)) ∧ w'.cell? ⟨p, 7, none⟩ = some (.slice (some ⟨b', 0, none⟩) n n) ∧ (∃ u, w'.cell? ⟨b', r, none⟩ = some u) ∧ w'.frozen? ⟨b', r, none⟩ = false) :
    Calls Tryz.prog 20 #[.pointer (some ⟨q, 0, none⟩), .int .i64 (r : Int), .func (.func K) #[] caps] w fun ev w' => ev = .returned .nilIface ∧ ∃ w1, Q w1 ∧ w' = w1.setCell ⟨b', r, none⟩ (.int .u64 y) := by
  have k := root_ok q p b n r x hr w c0 c7 cr hn
  have hI : (r : Int) < (n : Int) := by omega
  have hI0 : (0 : Int) ≤ (r : Int) := by omega
  have HQ := toHid hQ
  clear c0 c7 cr hQ
  go_enter Tryz.func20, Tryz.ntmps20
  go_wp2_with fail
  refine k.mono ?_
  clear k
  rintro ev w1 ⟨rfl, rfl⟩
  go_wp2_with fail
  refine hK.mono ?_
  clear hK
  rintro ev w2 ⟨rfl, h2⟩
  obtain ⟨d0, d7, ⟨u, du⟩, fz⟩ := HQ.out w2 h2
  have H2 := toHid h2
  clear h2 HQ
  go_wp2_with fail
  go_ret
  exact ⟨rfl, w2, H2.out, rfl⟩
end Go.Proofs.YtlkcbdinlfeoiabGreatDoor
namespace Go.Proofs.YtlkcbdinlfeoiabGreatDoor
open Go.RowKit

set_option maxHeartbeats 1000000 in
theorem left_ok (q p : Nat) (half top : Int) (h0 : 0 ≤ top) (h1 : top ≤ half) (h2 : half ≤ 65536) (w : World) (c0 : w.cell? ⟨q, 0, none⟩ = some (.pointer (some ⟨p, 0, none⟩))) (m0 : w.cell? ⟨p, 0, none⟩ = some (.int .i64 half)) (m5 : w.cell? ⟨p, 5, none⟩ = some (.int .i64 top)) :
    Calls Tryz.prog 79 #[.pointer (some ⟨q, 0, none⟩)] w fun ev w' => ev = .returned (.int .i64 (half - top)) ∧ ∃ k, w' = w.drewN k := by
  go_enter Tryz.func79, Tryz.ntmps79
  go_wp2_with fail
  go_quiet (fail)
  go_wp2_with fail
  go_ret
  exact ⟨rfl, _, rfl⟩
set_option maxHeartbeats 2000000 in
theorem take_ok (q p n : Nat) (half used top : Int) (h0 : 0 ≤ top) (hn : top + (n : Int) ≤ half) (h2 : half ≤ 65536) (hu : used = 0 ∨ used = 1) (w : World) (c0 : w.cell? ⟨q, 0, none⟩ = some (.pointer (some ⟨p, 0, none⟩))) (m0 : w.cell? ⟨p, 0, none⟩ = some (.int .i64 half)) (m4 : w.cell? ⟨p, 4, none⟩ = some (.int .i64 used)) (m5 : w.cell? ⟨p, 5, none⟩ = some (.int .i64 top)) (fz : w.frozen? ⟨p, 5, none⟩ = false) :
    Calls Tryz.prog 47 #[.pointer (some ⟨q, 0, none⟩), .int .i64 (n : Int)] w fun ev w' => ev = .returned (.tuple #[.int .i64 (used * half + top), .nilIface]) ∧ ∃ k, w' = (w.drewN k).setCell ⟨p, 5, none⟩ (.int .i64 (top + (n : Int))) := by
  have kl := fun k => left_ok q p half top h0 (by omega) h2 (w.drewN k) c0 m0 m5
  have hc : ¬ half - top < (n : Int) := by omega
  have hc' : (n : Int) ≤ half - top := by omega
  have e1 : IntKind.i64.wrap (used * half) = used * half := by rw [IntKind.wrap_i64]; rcases hu with rfl | rfl <;> omega
  have e2 : IntKind.i64.wrap (used * half + top) = used * half + top := by rw [IntKind.wrap_i64]; rcases hu with rfl | rfl <;> omega
  have e3 : IntKind.i64.wrap (top + (n : Int)) = top + (n : Int) := by rw [IntKind.wrap_i64]; omega
  have HK := toHid kl
  clear kl hu
  go_enter Tryz.func47, Tryz.ntmps47
  go_wp2_with fail
  refine (HK.out 0).mono ?_
  rintro ev w1 ⟨rfl, k1, rfl⟩
  go_wp2_with fail
  refine (HK.out _).mono ?_
  rintro ev w2 ⟨rfl, k2, rfl⟩
  go_wp2_with fail
  go_quiet (fail)
  go_wp2_with fail
  go_ret2
  exact ⟨rfl, _, rfl⟩
end Go.Proofs.YtlkcbdinlfeoiabGreatDoor
namespace Go.Proofs.YtlkcbdinlfeoiabGreatDoor
open Go.RowKit

variable {q p bW bR bC nW nR nC : Nat} {half old card used top oldTop tn sr : Int} {cW cR cC : Array Value} {w w' : World}
theorem HeapIs.below (H : HeapIs q p bW bR bC nW nR nC half old card used top oldTop tn sr cW cR cC w) (hb : Below w.heap.size w w') : HeapIs q p bW bR bC nW nR nC half old card used top oldTop tn sr cW cR cC w' :=
  ⟨(hb.block _ (lt_of_heap H.hq)).trans H.hq, (hb.block _ (lt_of_heap H.hp)).trans H.hp, (hb.block _ (lt_of_heap H.hW)).trans H.hW, (hb.block _ (lt_of_heap H.hR)).trans H.hR, (hb.block _ (lt_of_heap H.hC)).trans H.hC⟩
theorem HeapIs.ne (H : HeapIs q p bW bR bC nW nR nC half old card used top oldTop tn sr cW cR cC w) : q ≠ p ∧ q ≠ bW ∧ q ≠ bR ∧ q ≠ bC ∧ p ≠ bW ∧ p ≠ bR ∧ p ≠ bC ∧ bW ≠ bC ∧ bR ≠ bC := by
  refine ⟨?_, ?_, ?_, ?_, ?_, ?_, ?_, ?_, ?_⟩
  · rintro rfl; have := H.hq.symm.trans H.hp; simp at this
  · rintro rfl; have := H.hq.symm.trans H.hW; simp at this
  · rintro rfl; have := H.hq.symm.trans H.hR; simp at this
  · rintro rfl; have := H.hq.symm.trans H.hC; simp at this
  · rintro rfl; have := H.hp.symm.trans H.hW; simp at this
  · rintro rfl; have := H.hp.symm.trans H.hR; simp at this
  · rintro rfl; have := H.hp.symm.trans H.hC; simp at this
  · rintro rfl; have := H.hW.symm.trans H.hC; simp at this
  · rintro rfl; have := H.hR.symm.trans H.hC; simp at this
theorem HeapIs.setTop (H : HeapIs q p bW bR bC nW nR nC half old card used top oldTop tn sr cW cR cC w) (v : Int) : HeapIs q p bW bR bC nW nR nC half old card used v oldTop tn sr cW cR cC (w.setCell ⟨p, 5, none⟩ (.int .i64 v)) := by
  obtain ⟨n1, n2, n3, n4, n5, n6, n7, n8, n9⟩ := H.ne
  exact ⟨(heap_set _ _ _ _ _ n1).trans H.hq, heap_set_same H.hp, (heap_set _ _ _ _ _ n5.symm).trans H.hW, (heap_set _ _ _ _ _ n6.symm).trans H.hR, (heap_set _ _ _ _ _ n7.symm).trans H.hC⟩
theorem HeapIs.setRoot (H : HeapIs q p bW bR bC nW nR nC half old card used top oldTop tn sr cW cR cC w) (hWR : bW ≠ bR) (r : Nat) (v : Value) : HeapIs q p bW bR bC nW nR nC half old card used top oldTop tn sr cW (cR.setIfInBounds r v) cC (w.setCell ⟨bR, r, none⟩ v) := by
  obtain ⟨n1, n2, n3, n4, n5, n6, n7, n8, n9⟩ := H.ne
  exact ⟨(heap_set _ _ _ _ _ n3).trans H.hq, (heap_set _ _ _ _ _ n6).trans H.hp, (heap_set _ _ _ _ _ hWR).trans H.hW, heap_set_same H.hR, (heap_set _ _ _ _ _ n9.symm).trans H.hC⟩
theorem HeapIs.setWord (H : HeapIs q p bW bR bC nW nR nC half old card used top oldTop tn sr cW cR cC w) (hWR : bW ≠ bR) (r : Nat) (v : Value) : HeapIs q p bW bR bC nW nR nC half old card used top oldTop tn sr (cW.setIfInBounds r v) cR cC (w.setCell ⟨bW, r, none⟩ v) := by
  obtain ⟨n1, n2, n3, n4, n5, n6, n7, n8, n9⟩ := H.ne
  exact ⟨(heap_set _ _ _ _ _ n2).trans H.hq, (heap_set _ _ _ _ _ n5).trans H.hp, heap_set_same H.hW, (heap_set _ _ _ _ _ hWR.symm).trans H.hR, (heap_set _ _ _ _ _ n8.symm).trans H.hC⟩
theorem HeapIs.words (H : HeapIs q p bW bR bC nW nR nC half old card used top oldTop tn sr cW cR cC w) (hWR : bW ≠ bR) (c : Array Value) (ha : Apart bW w w') (hg : w'.heap[bW]? = some (.cells c 50)) : HeapIs q p bW bR bC nW nR nC half old card used top oldTop tn sr c cR cC w' := by
  obtain ⟨n1, n2, n3, n4, n5, n6, n7, n8, n9⟩ := H.ne
  exact ⟨(ha.block _ n2).trans H.hq, (ha.block _ n5).trans H.hp, hg, (ha.block _ hWR.symm).trans H.hR, (ha.block _ n8.symm).trans H.hC⟩
theorem HeapIs.cells (H : HeapIs q p bW bR bC nW nR nC half old card used top oldTop tn sr cW cR cC w) : w.cell? ⟨q, 0, none⟩ = some (.pointer (some ⟨p, 0, none⟩)) ∧ w.cell? ⟨p, 0, none⟩ = some (.int .i64 half) ∧ w.cell? ⟨p, 3, none⟩ = some (.slice (some ⟨bW, 0, none⟩) nW nW) ∧ w.cell? ⟨p, 4, none⟩ = some (.int .i64 used) ∧ w.cell? ⟨p, 5, none⟩ = some (.int .i64 top) ∧ w.cell? ⟨p, 7, none⟩ = some (.slice (some ⟨bR, 0, none⟩) nR nR) := by
  refine ⟨?_, ?_, ?_, ?_, ?_, ?_⟩
  · rw [cell_of_row _ _ _ _ _ _ H.hq]; rfl
  all_goals (rw [cell_of_row _ _ _ _ _ _ H.hp]; rfl)
theorem notFrozen {b o : Nat} {c : Array Value} {t : TypeId} (h : w.heap[b]? = some (.cells c t)) : w.frozen? ⟨b, o, none⟩ = false := by simp [World.frozen?, h]
end Go.Proofs.YtlkcbdinlfeoiabGreatDoor
