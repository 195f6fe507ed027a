/- slices.Repeat of a word, by a contract. -/
import Derived.Test.YtlkcbdinlfeoiabGreatDoorKnBA
import Derived.Laws.CopyOwn
import Derived.Deep.RegionLaw
import Derived.Test.YtlkcbdinlfeoiabGreatDoorKnAA
namespace Go.Proofs.YtlkcbdinlfeoiabGreatDoor
open Go.RowKit Go.Shelf

theorem wordInfo : (Tryz.prog.info? 50).map (·.size) = some 1 := by kernel_rfl
theorem splice_rep {v : Value} {cur : List Value} {c m : Nat} (h : cur.take c = List.replicate c v) : (splice cur c (List.replicate m v)).take (c + m) = List.replicate (c + m) v := by
  unfold splice
  rw [h, ← List.append_assoc, List.take_append_of_le_length (by simp), List.take_of_length_le (by simp), List.replicate_append_replicate]
set_option maxHeartbeats 4000000 in
set_option maxRecDepth 100000 in
theorem repeat_any (v : Int) (n : Nat) (hn : n ≤ 5000) (qx ox : Nat) (w : World) (hx : w.cell? ⟨qx, ox, none⟩ = some (.int .u64 v)) :
    Calls Tryz.prog 19 #[.slice (some ⟨qx, ox, none⟩) 1 1, .int .i64 (n : Int)] w fun ev w' => ∃ g, ev = .returned (.slice (some ⟨g, 0, none⟩) n n) ∧ w.heap.size ≤ g ∧ w'.heap[g]? = some (.cells (Array.replicate n (.int .u64 v)) 50) ∧ Below w.heap.size w w' := by
  have km := hbits_Mul 1 n (by decide) (by omega) w
  rw [show 1 * n / 18446744073709551616 = 0 by omega, show 1 * n % 18446744073709551616 = n by omega] at km
  have kk := fun W => make_words n (by omega) (n : Int) rfl W
  have HX := toHid hx
  clear hx
  go_enter Tryz.func19, Tryz.ntmps19
  go_wp2_with fail
  refine km.mono ?_
  rintro ev w1 ⟨rfl, hw1⟩
  rw [hw1]
  clear hw1 w1 km
  go_upto_region 7 with fail
  obtain ⟨w1, hw1⟩ : ∃ w1, w1 = w.alloc (.cells (Array.replicate n (.int .u64 0)) 50) := ⟨_, rfl⟩
  obtain ⟨q, hq⟩ : ∃ q, q = w.heap.size := ⟨_, rfl⟩
  have ob : w1.heap[q]? = some (.cells (List.replicate n (Value.int .u64 0)).toArray 50 (0, 0)) := by rw [hw1, hq, List.toArray_replicate]; exact heap_alloc_new _ _
  have b1 : Below w.heap.size w w1 := by rw [hw1]; exact (Below.refl _ _).alloc (Nat.le_refl _) _
  have hqw : w.heap.size ≤ q := by omega
  rw [← hw1, ← hq]
  have hx1 := (b1.cell (p := ⟨qx, ox, none⟩) (lt_of_cell HX.out)).trans HX.out
  obtain ⟨m0, hm0⟩ : ∃ m0, m0 = Nat.min 1 n := ⟨_, rfl⟩
  have HOB := toHid ob
  have HB1 := toHid b1
  have HX1 := toHid hx1
  have HM0 := toHid hm0
  clear hw1 hq ob b1 hx1 kk hm0
  have hn0 : (0 : Int) ≤ (n : Int) := by omega
  go_wp2_with (refine wpList_copy_splice rfl _ _ _ _ rfl 50 Tryz.underlying48 wordInfo (some ⟨q, 0, none⟩) (some ⟨qx, ox, none⟩) n n 1 1 rfl rfl q 0 (List.replicate n (Value.int .u64 0)) 50 HOB.out (List.replicate m0 (Value.int .u64 v)) (by rw [List.length_replicate, HM0.out]) (fun _ => ⟨rfl, _, rfl, fun j u hj => by
      have hj0 : j = 0 := by
        have := (List.getElem?_eq_some_iff.1 hj).1
        rw [List.length_replicate, HM0.out] at this
        have h1 : Nat.min 1 n ≤ 1 := Nat.min_le_left _ _
        omega
      subst hj0
      rw [List.getElem?_replicate] at hj
      split at hj
      · cases hj; exact HX1.out
      · cases hj⟩) (by rw [List.length_replicate, List.length_replicate, HM0.out]; have h1 : Nat.min 1 n ≤ n := Nat.min_le_right _ _; omega) (fun u hu => by rw [List.eq_of_mem_replicate hu]; rfl) w.heap.size w HB1.out hqw ?_; intro w2 hg2 hb2)
  have h20 : splice (List.replicate n (Value.int .u64 0)) 0 (List.replicate m0 (Value.int .u64 v)) = List.replicate m0 (Value.int .u64 v) ++ List.replicate (n - m0) (Value.int .u64 0) := by
    unfold splice
    simp
  have hm0n : m0 ≤ n := by rw [HM0.out]; exact Nat.min_le_right _ _
  have hm01 : n = 0 ∨ 1 ≤ m0 := by
    rcases Nat.eq_zero_or_pos n with h | h
    · exact Or.inl h
    · refine Or.inr ?_
      rw [HM0.out]
      exact Nat.le_min.2 ⟨Nat.le_refl _, h⟩
  have HSTART : Hid (∃ cur : List Value, w2.heap[q]? = some (.cells cur.toArray 50 (0, 0)) ∧ cur.length = n ∧ cur.take m0 = List.replicate m0 (Value.int .u64 v)) := by
    refine ⟨_, hg2.out, ?_, ?_⟩
    · rw [h20]; simp; omega
    · rw [h20, List.take_append_of_le_length (by simp), List.take_of_length_le (by simp)]
  clear h20 hg2
  go_loopg [8] (n + 1 - m0) (fun gk vc wr => ∃ (c : Nat), gk = n + 1 - c ∧ c ≤ n ∧ (n = 0 ∨ 1 ≤ c) ∧ vc = .int .i64 (c : Int) ∧ Below w.heap.size w wr ∧ Hid (∃ cur : List Value, wr.heap[q]? = some (.cells cur.toArray 50 (0, 0)) ∧ cur.length = n ∧ cur.take c = List.replicate c (Value.int .u64 v)))
  case atStart => exact ⟨m0, rfl, hm0n, hm01, by simp, hb2, HSTART.out⟩
  case round =>
    obtain ⟨c, hgk, hc, hc1, rfl, hb, hcur⟩ := hrel
    have HG := toHid hgk
    have hc0 : (0 : Int) ≤ (c : Int) := by omega
    clear hgk
    by_cases hlt : c < n
    · have hI : (c : Int) < (n : Int) := by omega
      have hcn : ¬ n = c := by omega
      have hcn' : ¬ c = n := by omega
      have hcle : (c : Int) ≤ (n : Int) := by omega
      obtain ⟨cur, ho, hl, ht⟩ := hcur.out
      obtain ⟨m, hm⟩ : ∃ m, m = Nat.min c (n - c) := ⟨_, rfl⟩
      have hm1 : 1 ≤ m := by rw [hm]; exact Nat.le_min.2 ⟨by omega, by omega⟩
      have hm2' : m ≤ n - c := by rw [hm]; exact Nat.min_le_right _ _
      have hm2 : c + m ≤ n := by omega
      have hm3 : m ≤ c := by rw [hm]; exact Nat.min_le_left _ _
      have HCC : Hid (∀ j u, (List.replicate m (Value.int .u64 v))[j]? = some u → wr.cell? ((⟨q, 0, none⟩ : Addr).add j) = some u) := fun j u hj => by
        have hjm : j < m := by simpa using (List.getElem?_eq_some_iff.1 hj).1
        rw [List.getElem?_replicate, if_pos hjm] at hj
        cases hj
        have e : (⟨q, 0, none⟩ : Addr).add j = ⟨q, j, none⟩ := by unfold Addr.add; split <;> simp_all
        rw [e, cell_of_row _ _ _ _ _ _ ho, ← Array.getElem?_toList]
        have h1 := congrArg (fun l => l[j]?) ht
        simp only [List.getElem?_take, List.getElem?_replicate, if_pos (show j < c by omega)] at h1
        exact h1
      have HB := toHid hb
      have HOO := toHid ho
      have HTT : Hid ((splice cur c (List.replicate m (Value.int .u64 v))).take (c + m) = List.replicate (c + m) (Value.int .u64 v)) := splice_rep ht
      have HLL : Hid ((splice cur c (List.replicate m (Value.int .u64 v))).length = n) := by show _ = _; rw [length_splice _ _ _ (by simp; omega), hl]
      have HMM := toHid hm
      have hlc : c + m ≤ cur.length := by omega
      clear hm ht hl ho hb hcur
      go_upto_region 9 with fail
      go_region_held3 (fun _ => True) (exact trivial) (first | (refine step_copy_splice (by rfl) _ _ _ _ (by rfl) 50 Tryz.underlying48 wordInfo (some ⟨q, c, none⟩) (some ⟨q, 0, none⟩) (n - c) (n - c) c n (by rfl) (by rfl) q c cur 50 HOO.out (List.replicate m (Value.int .u64 v)) (by rw [List.length_replicate, HMM.out]) (fun _ => ⟨rfl, _, rfl, HCC.out⟩) (by rw [List.length_replicate]; omega) (fun u hu => by rw [List.eq_of_mem_replicate hu]; rfl) w.heap.size w (HB.out.drew) hqw ?_; intro w3 hg3 hb3))
      have hwr : IntKind.i64.wrap ((c : Int) + (m : Int)) = ((c + m : Nat) : Int) := by rw [IntKind.wrap_i64]; omega
      rw [hwr]
      clear hwr
      go_wp2_with fail
      go_roundg (n + 1 - (c + m))
      case measure => have := HG.out; omega
      case rel => exact ⟨c + m, rfl, hm2, Or.inr (by omega), rfl, hb3, ⟨_, hg3.out, HLL.out, HTT.out⟩⟩
    · have hI : ¬ (c : Int) < (n : Int) := by omega
      have HE : Hid (wr.heap[q]? = some (.cells (Array.replicate n (.int .u64 v)) 50)) := by
        obtain ⟨cur, ho, hl, ht⟩ := hcur.out
        have hcn : c = n := by omega
        rw [hcn, List.take_of_length_le (by omega)] at ht
        rw [ht, List.toArray_replicate] at ho
        exact ho
      have HB := toHid hb
      clear hcur hb
      go_wp2_with fail
      go_ret
      exact ⟨q, rfl, hqw, HE.out, HB.out⟩
end Go.Proofs.YtlkcbdinlfeoiabGreatDoor
namespace Go.Proofs.YtlkcbdinlfeoiabGreatDoor
open Go.RowKit

/-- Numbers that New takes. -/
def heapOK (half old card tn rs : Int) : Prop := numsOK half old card ∧ 0 ≤ tn ∧ tn ≤ 15 ∧ 0 ≤ rs ∧ rs ≤ 5000
end Go.Proofs.YtlkcbdinlfeoiabGreatDoor
namespace Go.Proofs.YtlkcbdinlfeoiabGreatDoor
open Go.RowKit

/-- A heap in memory, block by block: the heap's own, its memory's, words, roots, cards. -/
structure HeapIs (q p bW bR bC nW nR nC : Nat) (half old card used top oldTop tn sr : Int) (cW cR cC : Array Value) (w : World) : Prop where
  hq : w.heap[q]? = some (.cells #[.pointer (some ⟨p, 0, none⟩), .int .i64 tn, .int .i64 sr] 58)
  hp : w.heap[p]? = some (.cells #[.int .i64 half, .int .i64 old, .int .i64 card, .slice (some ⟨bW, 0, none⟩) nW nW, .int .i64 used, .int .i64 top, .int .i64 oldTop, .slice (some ⟨bR, 0, none⟩) nR nR, .slice none 0 0, .slice none 0 0, .slice (some ⟨bC, 0, none⟩) nC nC] 54)
  hW : w.heap[bW]? = some (.cells cW 50)
  hR : w.heap[bR]? = some (.cells cR 50)
  hC : w.heap[bC]? = some (.cells cC 4)
theorem newW_block (half old card : Int) (nW nC : Nat) (w : World) (q : Nat) : ((newW half old card nW nC w).drewN q).heap[w.heap.size]? = some (.cells #[.int .i64 half, .int .i64 old, .int .i64 card, .slice (some ⟨w.heap.size + 1, 0, none⟩) nW nW, .int .i64 0, .int .i64 0, .int .i64 0, .slice none 0 0, .slice none 0 0, .slice none 0 0, .slice (some ⟨w.heap.size + 2, 0, none⟩) nC nC] 54) := by
  exact ((below_drewN (((Below.refl (w.heap.size + 1) _).alloc (by simp) _).alloc (by simp) _)).block w.heap.size (by omega)).trans (heap_alloc_new w _)
/-- A new heap: where its blocks lie. -/
def NewPost (half old card tn : Int) (nW nC n : Nat) (w : World) (ev : Ending) (w' : World) : Prop := ∃ q p g, ev = .returned (.tuple #[.pointer (some ⟨q, 0, none⟩), .nilIface]) ∧ w.heap.size ≤ p ∧ p + 2 < g ∧ g < q ∧ Below w.heap.size w w' ∧
  HeapIs q p (p + 1) g (p + 2) nW n nC half old card 0 0 0 tn 0 (Array.replicate nW (.int .u64 0)) (Array.replicate n (.int .u64 2)) (Array.replicate nC (.bool false)) w'
set_option maxHeartbeats 2000000 in
theorem hnew_ok (half old card tn : Int) (n nW nC : Nat) (hW : (nW : Int) = 2 * half + old) (hC : (nC : Int) = (old + card - 1) / card) (H : heapOK half old card tn n) (w : World) :
    Calls Tryz.prog 6 #[.agg #[.int .i64 half, .int .i64 old, .int .i64 card, .int .i64 tn], .int .i64 (n : Int)] w (NewPost half old card tn nW nC n w) := by
  obtain ⟨w1, hw1⟩ : ∃ w1, w1 = w.alloc (.cells #[.int .i64 half, .int .i64 old, .int .i64 card, .int .i64 tn] 30) := ⟨_, rfl⟩
  have b1 : Below w.heap.size w w1 := by rw [hw1]; exact (Below.refl _ _).alloc (Nat.le_refl _) _
  have hn1 : w1.heap[w.heap.size]? = some (.cells #[.int .i64 half, .int .i64 old, .int .i64 card, .int .i64 tn] 30) := by rw [hw1]; exact heap_alloc_new _ _
  have HW1 := toHid hw1
  obtain ⟨hn, t0, t1, r0, r1⟩ := H
  have kn := new_ok half old card hn nW nC hW hC w1
  rw [hw1] at kn
  clear hw1
  go_enter Tryz.func6, Tryz.ntmps6
  go_wp2_with fail
  rw [← HW1.out] at kn ⊢
  refine kn.mono ?_
  clear kn
  rintro ev w2 ⟨rfl, q2, rfl⟩
  obtain ⟨b2, M2, W2, C2⟩ := newW_facts half old card nW nC w1 q2
  have P2 := newW_block half old card nW nC w1 q2
  have m7 := M2.c7
  generalize (newW half old card nW nC w1).drewN q2 = w2 at *
  have b12 := b1.trans (b2.mono b1.size)
  have hn2 := (b2.block _ (lt_of_heap hn1)).trans hn1
  have c3 : w2.cell? ⟨w.heap.size, 3, none⟩ = some (.int .i64 tn) := by rw [cell_of_row _ _ 3 _ _ _ hn2]; rfl
  have HB := toHid b12
  have HP2 := toHid P2
  have HLP : Hid (w.heap.size < w1.heap.size) := lt_of_heap hn1
  have HW2 := toHid W2
  have HC2 := toHid C2
  clear b1 hn1 b2 b12 hn2 M2 W2 C2 P2
  have ht' : (decide (0 ≤ tn) && decide (tn ≤ 15)) = true := by simp [t0, t1]
  have hr' : (decide (0 ≤ (n : Int)) && decide ((n : Int) ≤ 5000)) = true := by simp; omega
  have k1 := fun w => hwithin_any tn 0 15 w
  have k2 := fun w => hwithin_any n 0 5000 w
  rw [ht'] at k1
  rw [hr'] at k2
  clear ht' hr'
  go_wp2_with fail
  refine (k1 _).mono ?_
  rintro ev w3 ⟨rfl, rfl⟩
  go_wp2_with fail
  refine (k2 _).mono ?_
  rintro ev w3 ⟨rfl, rfl⟩
  clear k1 k2
  go_wp2_with fail
  have kr := repeat_any 2 n (by omega) w3.heap.size 0 (w3.alloc (.cells #[.int .u64 2] 50)) (by rw [cell_of_row _ _ 0 _ _ _ (heap_alloc_new _ _)]; rfl)
  obtain ⟨p, hp⟩ : ∃ p, p = w1.heap.size := ⟨_, rfl⟩
  rw [← hp] at HLP HP2 HW2 HC2 m7 ⊢
  have HLG : Hid (p + 2 < w3.heap.size) := lt_of_heap HC2.out
  clear hp
  refine kr.mono ?_
  clear kr
  rintro ev w4 ⟨g, rfl, hg, hgr, b4⟩
  have b34 : Below w3.heap.size w3 w4 := ((Below.refl _ _).alloc (Nat.le_refl _) _).trans (b4.mono (by simp))
  have hg3 : w3.heap.size < g := by simp at hg; omega
  have p4 := (b34.block p (by have := HLG.out; omega)).trans HP2.out
  have W4 := toHid ((b34.block (p + 1) (by have := HLG.out; omega)).trans HW2.out)
  have C4 := toHid ((b34.block (p + 2) (by have := HLG.out; omega)).trans HC2.out)
  have c34 := (b34.cell (p := ⟨w.heap.size, 3, none⟩) (by have := HLG.out; have := HLP.out; show w.heap.size < _; omega)).trans c3
  have c74 := (b34.cell (p := ⟨p, 7, none⟩) (by have := HLG.out; show p < _; omega)).trans m7
  have HG := toHid hgr
  have HB4 : Hid (Below w.heap.size w w4) := HB.out.trans (b34.mono HB.out.size)
  clear hg hgr b4 b34 c3 m7
  have HP4 := toHid p4
  clear p4
  have fz : w4.frozen? ⟨p, 7, none⟩ = false := by have h := HP4.out; simp [World.frozen?, h]
  go_upto_region 7 with fail
  obtain ⟨w5, hw5⟩ : ∃ w5, w5 = w4.setCell ⟨p, 7, none⟩ (.slice (some ⟨g, 0, none⟩) n n) := ⟨_, rfl⟩
  have hlp := HLP.out
  have hlg := HLG.out
  have P5 : Hid (w5.heap[p]? = some (.cells #[.int .i64 half, .int .i64 old, .int .i64 card, .slice (some ⟨p + 1, 0, none⟩) nW nW, .int .i64 0, .int .i64 0, .int .i64 0, .slice (some ⟨g, 0, none⟩) n n, .slice none 0 0, .slice none 0 0, .slice (some ⟨p + 2, 0, none⟩) nC nC] 54)) := by
    show w5.heap[p]? = _
    rw [hw5]; exact (heap_set_same HP4.out).trans rfl
  have W5 : Hid (w5.heap[p + 1]? = some (.cells (Array.replicate nW (.int .u64 0)) 50)) := by show w5.heap[p + 1]? = _; rw [hw5, heap_set _ _ _ _ _ (by omega)]; exact W4.out
  have C5 : Hid (w5.heap[p + 2]? = some (.cells (Array.replicate nC (.bool false)) 4)) := by show w5.heap[p + 2]? = _; rw [hw5, heap_set _ _ _ _ _ (by omega)]; exact C4.out
  have G5 : Hid (w5.heap[g]? = some (.cells (Array.replicate n (.int .u64 2)) 50)) := by show w5.heap[g]? = _; rw [hw5, heap_set _ _ _ _ _ (by omega)]; exact HG.out
  have B5 : Hid (Below w.heap.size w w5) := by rw [hw5]; exact HB4.out.setCell (by show w.heap.size ≤ p; omega) _
  have c35 : w5.cell? ⟨w.heap.size, 3, none⟩ = some (.int .i64 tn) := by
    have h := ((Below.refl p w4).setCell (p := ⟨p, 7, none⟩) (Nat.le_refl p) (.slice (some ⟨g, 0, none⟩) n n)).cell (p := ⟨w.heap.size, 3, none⟩) hlp
    rw [hw5]; exact h.trans c34
  rw [← hw5]
  clear hw5 fz c34 c74 HB4 HG C4 W4 HP4
  go_wp2_with fail
  have ba : Below w5.heap.size w5 (w5.alloc (.cells #[.pointer (some ⟨p, 0, none⟩), .int .i64 tn, .int .i64 0] 58)) := (Below.refl _ _).alloc (Nat.le_refl _) _
  go_ret2
  exact ⟨w5.heap.size, p, g, rfl, by omega, by omega, lt_of_heap G5.out, B5.out.alloc B5.out.size _, heap_alloc_new _ _, (ba.block p (lt_of_heap P5.out)).trans P5.out, (ba.block _ (lt_of_heap W5.out)).trans W5.out, (ba.block g (lt_of_heap G5.out)).trans G5.out, (ba.block _ (lt_of_heap C5.out)).trans C5.out⟩
end Go.Proofs.YtlkcbdinlfeoiabGreatDoor
