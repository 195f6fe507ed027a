/- Package heap: lay of a new object, where the nursery has room, by a contract. -/
import Derived.Test.YtlkcbdinlfeoiabGreatDoorKnBC
import Derived.Test.YtlkcbdinlfeoiabGreatDoorRows
import Derived.Test.YtlkcbdinlfeoiabGreatDoorKnAA
import Derived.Stop.LaidTwo
import Derived.Test.YtlkcbdinlfeoiabGreatDoorKnAD
namespace Go.Proofs.YtlkcbdinlfeoiabGreatDoor
open Go.RowKit

theorem heapInfoU64 : (Tryz.prog.info? 50).map (·.size) = some 1 := by kernel_rfl
/-- The words of a memory with a new object. -/
def laidW (cW : Array Value) (ax : Nat) (hd : Int) (fs : List Int) : Array Value := (splice (cW.setIfInBounds ax (.int .u64 hd)).toList (ax + 1) (wordsV fs)).toArray
set_option maxHeartbeats 4000000 in
set_option maxRecDepth 100000 in
theorem lay_ok (q p bW bR bC nW nR nC : Nat) (half old card used top oldTop tn sr : Int) (cW cR cC : Array Value) (kd : Int) (fs : List Int) (g ax B : Nat) (w : World) (H : HeapIs q p bW bR bC nW nR nC half old card used top oldTop tn sr cW cR cC w) (hWR : bW ≠ bR) (hcw : cW.size = nW)
    (hg : w.heap[g]? = some (.cells (wordsV fs).toArray 50)) (hgW : g ≠ bW) (k0 : 0 ≤ kd) (k1 : kd ≤ 255) (hf : fs.length ≤ 4096) (h0 : 0 ≤ top) (hn : top + (1 + (fs.length : Int)) ≤ half) (h2 : half ≤ 65536) (hu : used = 0 ∨ used = 1) (hax : (ax : Int) = used * half + top) (hlt : ax + 1 + fs.length < nW) (hBp : B ≤ p) (hBW : B ≤ bW) (hBs : B ≤ w.heap.size) :
    Calls Tryz.prog 22 #[.pointer (some ⟨q, 0, none⟩), .int .i64 kd, .slice (some ⟨g, 0, none⟩) fs.length fs.length] w fun ev w' => ev = .returned (.tuple #[.int .u64 (((ax : Int) + 1) * 4), .nilIface]) ∧
      HeapIs q p bW bR bC nW nR nC half old card used (top + (1 + (fs.length : Int))) oldTop tn sr (laidW cW ax ((fs.length : Int) * 65536 + kd * 4 + 3) fs) cR cC w' ∧ Below B w w' ∧ (∀ k, k < w.heap.size → k ≠ p → k ≠ bW → w'.heap[k]? = w.heap[k]?) := by
  have hsum : ((fs.length : Int) * 65536 + 0 * 16384 + 0 * 1024 + kd * 4 + 3) = (fs.length : Int) * 65536 + kd * 4 + 3 := by omega
  have ko := fun w => ofHead_ok kd 0 0 (fs.length : Int) k0 k1 (by omega) (by omega) (by omega) (by omega) (by omega) (by omega) w
  rw [hsum] at ko
  have ka := fun w => ofAddr_ok (ax : Int) (by omega) (by rcases hu with rfl | rfl <;> omega) w
  obtain ⟨hd, hhd⟩ : ∃ hd, hd = (fs.length : Int) * 65536 + kd * 4 + 3 := ⟨_, rfl⟩
  rw [← hhd] at ko ⊢
  clear hsum hhd
  have HH := toHid H
  have HG := toHid hg
  have HWR := toHid hWR
  have HGW := toHid hgW
  have HBS := toHid hBs
  have HCW := toHid hcw
  have HU := toHid hu
  have HAX := toHid hax
  have hxb : (ax : Int) ≤ 131072 := by rcases hu with rfl | rfl <;> omega
  clear H hg hWR hgW hcw hu hax hBs
  obtain ⟨n, hfl⟩ : ∃ n, n = fs.length := ⟨_, rfl⟩
  rw [← hfl] at ko hf hn hlt ⊢
  have HFL := toHid hfl
  clear hfl
  have HNN : Hid ((1 : Int) + (n : Int) = ((1 + n : Nat) : Int)) := by show _ = _; omega
  have hfi : (n : Int) ≤ 4096 := by omega
  have hfi0 : (0 : Int) ≤ (n : Int) := by omega
  go_enter Tryz.func22, Tryz.ntmps22
  go_wp2_with fail
  refine (ko w).mono ?_
  clear ko
  rintro ev w1 ⟨rfl, b1⟩
  have H1 := HH.out.below b1
  have G1 := (b1.block _ (lt_of_heap HG.out)).trans HG.out
  obtain ⟨c0, m0, m3, m4, m5, m7⟩ := H1.cells
  have fz : w1.frozen? ⟨p, 5, none⟩ = false := notFrozen H1.hp
  have kt := take_ok q p (1 + n) half used top h0 (by omega) h2 HU.out w1 c0 m0 m4 m5 fz
  rw [← HAX.out, ← HNN.out] at kt
  have HH1 := toHid H1
  have HG1 := toHid G1
  have HB1 := toHid b1
  clear H1 G1 b1 HH HG c0 m0 m3 m4 m5 m7 fz
  go_wp2_with fail
  refine kt.mono ?_
  clear kt
  rintro ev w2 ⟨rfl, k2, hw2⟩
  have H2 : HeapIs q p bW bR bC nW nR nC half old card used (top + (1 + (n : Int))) oldTop tn sr cW cR cC w2 := by rw [hw2]; exact (HH1.out.below (below_drewN (Below.refl _ _))).setTop _
  have hgp : g ≠ p := by rintro rfl; have := HG1.out.symm.trans HH1.out.hp; simp at this
  have G2 : Hid (w2.heap[g]? = some (.cells (wordsV fs).toArray 50)) := by show _ = _; rw [hw2]; exact (heap_set _ _ _ _ _ hgp).trans HG1.out
  have B2 : Hid (Below B w w2) := by rw [hw2]; exact (below_drewN (HB1.out.mono HBS.out)).setCell hBp _
  have F2 : Hid (∀ k, k < w.heap.size → k ≠ p → k ≠ bW → w2.heap[k]? = w.heap[k]?) := fun k hk hkp _ => by rw [hw2]; exact (heap_set _ _ _ _ _ hkp).trans (HB1.out.block k hk)
  obtain ⟨c0, m0, m3, m4, m5, m7⟩ := H2.cells
  have fz : w2.frozen? ⟨bW, ax, none⟩ = false := notFrozen H2.hW
  have cx : ∃ u, w2.cell? ⟨bW, ax, none⟩ = some u := by
    rw [cell_of_row _ _ _ _ _ _ H2.hW]
    exact ⟨_, Array.getElem?_eq_getElem (by rw [HCW.out]; omega)⟩
  obtain ⟨u, cx⟩ := cx
  have HH2 := toHid H2
  have xi : (ax : Int) < (nW : Int) := by omega
  have xi0 : (0 : Int) ≤ (ax : Int) := by omega
  clear H2 hw2 HH1 HG1 HB1 hgp
  go_upto_region 8 with fail
  obtain ⟨w3, hw3⟩ : ∃ w3, w3 = w2.setCell ⟨bW, ax, none⟩ (.int .u64 hd) := ⟨_, rfl⟩
  rw [← hw3]
  have H3 : HeapIs q p bW bR bC nW nR nC half old card used (top + (1 + (n : Int))) oldTop tn sr (cW.setIfInBounds ax (.int .u64 hd)) cR cC w3 := by rw [hw3]; exact HH2.out.setWord HWR.out _ _
  have G3 : Hid (w3.heap[g]? = some (.cells (wordsV fs).toArray 50)) := by show _ = _; rw [hw3]; exact (heap_set _ _ _ _ _ HGW.out).trans G2.out
  have B3 : Hid (Below B w w3) := by rw [hw3]; exact B2.out.setCell hBW _
  have F3 : Hid (∀ k, k < w.heap.size → k ≠ p → k ≠ bW → w3.heap[k]? = w.heap[k]?) := fun k hk hkp hkW => by rw [hw3]; exact (heap_set _ _ _ _ _ hkW).trans (F2.out k hk hkp hkW)
  clear hw3 HH2 G2 B2 F2 c0 m0 m3 m4 m5 m7 fz cx
  obtain ⟨c0, m0, m3, m4, m5, m7⟩ := H3.cells
  have HH3 := toHid H3
  clear H3
  have s3 : (ax : Int) + 1 ≤ (nW : Int) := by omega
  have ea : IntKind.i64.wrap ((ax : Int) + 1) = (ax : Int) + 1 := wrapI _ (by omega) (by omega)
  have hc1 : ¬ nW = ax + 1 := by omega
  have hc2 : ¬ ax + 1 = nW := by omega
  have hc3 : ¬ nW - (ax + 1) = 0 := by omega
  obtain ⟨cur, hcur⟩ : ∃ cur : List Value, cur = (cW.setIfInBounds ax (.int .u64 hd)).toList := ⟨_, rfl⟩
  have HCU := toHid hcur
  have HCUR : Hid (w3.heap[bW]? = some (.cells cur.toArray 50 (0, 0))) := by show _ = _; rw [HCU.out]; exact HH3.out.hW
  have HCL : Hid (ax + 1 + (wordsV fs).length ≤ cur.length) := by
    show _ ≤ _
    rw [HCU.out]
    have := HFL.out
    have := HCW.out
    simp only [wordsV, List.length_map, Array.length_toList, Array.size_setIfInBounds]
    omega
  have HMIN : Hid ((wordsV fs).length = Nat.min n (nW - (ax + 1))) := by
    show _ = _
    rw [lenV, ← HFL.out]
    exact (Nat.min_eq_left (by omega)).symm
  have HPOS : Hid (0 < (wordsV fs).length → ∃ ad, some (⟨g, 0, none⟩ : Addr) = some ad ∧ ∀ j v, (wordsV fs)[j]? = some v → w3.cell? (ad.add j) = some v) := fun _ => ⟨_, rfl, fun j v hj => by
    have e : (⟨g, 0, none⟩ : Addr).add j = ⟨g, j, none⟩ := by unfold Addr.add; split <;> simp_all
    rw [e, cell_of_row _ _ _ _ _ _ G3.out, List.getElem?_toArray]
    exact hj⟩
  have HONE : Hid (∀ v ∈ wordsV fs, v.oneCell' = true) := fun v hv => by
    unfold wordsV at hv
    obtain ⟨x, _, rfl⟩ := List.mem_map.1 hv
    rfl
  clear hcur
  go_wp2_with (refine wpList_copy_apart rfl _ _ _ _ rfl 50 Tryz.underlying48 heapInfoU64 _ _ _ _ _ _ rfl rfl bW (ax + 1) cur 50 HCUR.out (wordsV fs) HMIN.out (fun h => ⟨rfl, HPOS.out h⟩) HCL.out HONE.out ?_; intro w4 hg4 ha4)
  refine (ka w4).mono ?_
  clear ka
  rintro ev w5 ⟨rfl, b5⟩
  have H4 := HH3.out.words HWR.out _ ha4.out hg4.out
  have H5 := toHid (H4.below b5)
  have B5 : Hid (Below B w w5) := (ha4.out.below B3.out hBW).trans (b5.mono (Nat.le_trans HBS.out (ha4.out.below B3.out hBW).size))
  have F5 : Hid (∀ k, k < w.heap.size → k ≠ p → k ≠ bW → w5.heap[k]? = w.heap[k]?) := fun k hk hkp hkW => by
    have hs : k < w4.heap.size := Nat.lt_of_lt_of_le hk (ha4.out.below B3.out hBW).size
    exact (b5.block k hs).trans ((ha4.out.block k hkW).trans (F3.out k hk hkp hkW))
  clear F3 H4 b5 hg4 ha4 HH3 B3 HPOS HMIN HCL HCUR G3
  go_wp2_with fail
  go_ret2
  refine ⟨rfl, ?_, B5.out, F5.out⟩
  · have h := H5.out
    rw [HCU.out] at h
    exact h
end Go.Proofs.YtlkcbdinlfeoiabGreatDoor
namespace Go.Proofs.YtlkcbdinlfeoiabGreatDoor
open Go.RowKit

theorem enterInt1 (args : Array Value) (w : World) : (callFunc 26 args).run Tryz.prog w = .ok (.enter 26 args) w := by kernel_rfl
theorem enterMake1 (args : Array Value) (w : World) : (callFunc 21 args).run Tryz.prog w = .ok (.enter 21 args) w := by kernel_rfl
set_option maxHeartbeats 2000000 in
theorem hint1 (n : Int) (c1 : -2305843009213693952 ≤ n) (c2 : n < 2305843009213693952) (w : World) (bq bn : Nat) (hc : w.cell? ⟨bn, 0, none⟩ = some (.int .i64 n)) :
    Calls Tryz.prog 26 #[.pointer (some ⟨bn, 0, none⟩), .pointer (some ⟨bq, 0, none⟩)] w fun ev w' => ev = .returned (.tuple #[.int .u64 ((n * 4 + 1) % 18446744073709551616), .nilIface]) ∧ Below w.heap.size w w' := by
  have k := ofInt_ok n c1 c2 w
  go_enter Tryz.func26, Tryz.ntmps26
  go_wp2_with fail
  refine k.mono ?_
  clear k
  rintro ev w1 ⟨rfl, b1⟩
  go_wp2_with fail
  go_ret2
  exact ⟨rfl, b1⟩
set_option maxHeartbeats 2000000 in
theorem hint_small (q p bW bR bC nW nR nC : Nat) (half old card used top oldTop tn sr : Int) (cW cR cC : Array Value) (r B : Nat) (n x : Int) (c1 : -2305843009213693952 ≤ n) (c2 : n < 2305843009213693952) (w : World) (H : HeapIs q p bW bR bC nW nR nC half old card used top oldTop tn sr cW cR cC w) (hWR : bW ≠ bR) (hr : r < nR) (hn : nR ≤ 5000) (hx : cR[r]? = some (.int .u64 x)) (hBR : B ≤ bR) (hBs : B ≤ w.heap.size) :
    Calls Tryz.prog 11 #[.pointer (some ⟨q, 0, none⟩), .int .i64 (r : Int), .int .i64 n] w fun ev w' => ev = .returned .nilIface ∧
      HeapIs q p bW bR bC nW nR nC half old card used top oldTop tn sr cW (cR.setIfInBounds r (.int .u64 ((n * 4 + 1) % 18446744073709551616))) cC w' ∧ Below B w w' := by
  obtain ⟨w1, hw1⟩ : ∃ w1, w1 = (w.alloc (.cells #[.pointer (some ⟨q, 0, none⟩)] 24)).alloc (.cells #[.int .i64 n] 2) := ⟨_, rfl⟩
  obtain ⟨n1, n2⟩ := two_new w (.cells #[.pointer (some ⟨q, 0, none⟩)] 24) (.cells #[.int .i64 n] 2)
  rw [← hw1] at n1 n2
  have b1 : Below w.heap.size w w1 := by rw [hw1]; exact ((Below.refl _ _).alloc (Nat.le_refl _) _).alloc (by simp) _
  have H1 := H.below b1
  have hcn : w1.cell? ⟨w.heap.size + 1, 0, none⟩ = some (.int .i64 n) := by rw [cell_of_row _ _ _ _ _ _ n2]; rfl
  have k1 := hint1 n c1 c2 w1 w.heap.size (w.heap.size + 1) hcn
  obtain ⟨c0, _, _, _, _, c7⟩ := H1.cells
  have cr : w1.cell? ⟨bR, r, none⟩ = some (.int .u64 x) := by rw [cell_of_row _ _ _ _ _ _ H1.hR]; exact hx
  have hrs : r < cR.size := (Array.getElem?_eq_some_iff.1 hx).1
  have kb := become_ok 26 #[.pointer (some ⟨w.heap.size + 1, 0, none⟩), .pointer (some ⟨w.heap.size, 0, none⟩)] enterInt1 q p bR bR nR r x ((n * 4 + 1) % 18446744073709551616) hr hn (fun w' => Below w1.heap.size w1 w') w1 c0 c7 cr k1 (fun w' h => by
    have H' := H1.below h
    obtain ⟨d0, _, _, _, _, d7⟩ := H'.cells
    exact ⟨d0, d7, ⟨_, by rw [cell_of_row _ _ _ _ _ _ H'.hR]; exact hx⟩, notFrozen H'.hR⟩)
  rw [hw1] at kb
  have HW1 := toHid hw1
  have HH1 := toHid H1
  have HB1 := toHid b1
  have HHs := toHid hBs
  have HN := toHid hWR
  clear hw1 n1 n2 b1 H1 hcn k1 c0 c7 cr hrs H hWR hx hBs
  go_enter Tryz.func11, Tryz.ntmps11
  go_wp2_with fail
  refine kb.mono ?_
  clear kb
  rintro ev w2 ⟨rfl, w3, b3, hw2⟩
  rw [← HW1.out] at b3
  have hB1 : Below B w w3 := (HB1.out.mono HHs.out).trans (b3.mono (Nat.le_trans HHs.out HB1.out.size))
  have H2 : Hid (HeapIs q p bW bR bC nW nR nC half old card used top oldTop tn sr cW (cR.setIfInBounds r (.int .u64 ((n * 4 + 1) % 18446744073709551616))) cC w2 ∧ Below B w w2) := by
    show _ ∧ _
    rw [hw2]
    exact ⟨(HH1.out.below b3).setRoot HN.out _ _, hB1.setCell hBR _⟩
  clear hw2 b3 hB1
  go_wp2_with fail
  go_ret
  exact ⟨rfl, H2.out⟩
set_option maxHeartbeats 2000000 in
set_option maxRecDepth 100000 in
theorem hmake1 (q p bW bR bC nW nR nC : Nat) (half old card used top oldTop tn sr : Int) (cW cR cC : Array Value) (kd : Int) (n ax B bk bs bh : Nat) (w : World) (H : HeapIs q p bW bR bC nW nR nC half old card used top oldTop tn sr cW cR cC w) (hWR : bW ≠ bR) (hcw : cW.size = nW)
    (ck : w.cell? ⟨bk, 0, none⟩ = some (.int .i64 kd)) (cs : w.cell? ⟨bs, 0, none⟩ = some (.int .i64 (n : Int))) (ch : w.cell? ⟨bh, 0, none⟩ = some (.pointer (some ⟨q, 0, none⟩)))
    (hbo : p < bk ∧ bW < bk ∧ p < bs ∧ bW < bs ∧ p < bh ∧ bW < bh) (k0 : 8 ≤ kd) (k1 : kd ≤ 255) (hf : n ≤ 4096) (h0 : 0 ≤ top) (hn : top + (1 + (n : Int)) ≤ half) (h2 : half ≤ 65536) (hu : used = 0 ∨ used = 1) (hax : (ax : Int) = used * half + top) (hlt : ax + 1 + n < nW) (hBp : B ≤ p) (hBW : B ≤ bW) (hBs : B ≤ w.heap.size) :
    Calls Tryz.prog 21 #[.pointer (some ⟨bk, 0, none⟩), .pointer (some ⟨bs, 0, none⟩), .pointer (some ⟨bh, 0, none⟩)] w fun ev w' => ev = .returned (.tuple #[.int .u64 (((ax : Int) + 1) * 4), .nilIface]) ∧
      HeapIs q p bW bR bC nW nR nC half old card used (top + (1 + (n : Int))) oldTop tn sr (laidW cW ax ((n : Int) * 65536 + kd * 4 + 3) (List.replicate n 2)) cR cC w' ∧ Below B w w' := by
  have kw1 := fun w => hwithin_any kd 8 255 w
  have kw2 := fun w => hwithin_any (n : Int) 0 4096 w
  rw [show (decide (8 ≤ kd) && decide (kd ≤ 255)) = true by simp; omega] at kw1
  rw [show (decide (0 ≤ (n : Int)) && decide ((n : Int) ≤ 4096)) = true by simp; omega] at kw2
  have HH := toHid H
  have HWR := toHid hWR
  have HCW := toHid hcw
  have HU := toHid hu
  have HAX := toHid hax
  have hbk : bk < w.heap.size := lt_of_cell ck
  have hbs : bs < w.heap.size := lt_of_cell cs
  have hbh : bh < w.heap.size := lt_of_cell ch
  have HL : Hid (∀ g w1, Below w.heap.size w w1 → w1.heap[g]? = some (.cells (Array.replicate n (.int .u64 2)) 50) → w.heap.size ≤ g → Calls Tryz.prog 22 #[.pointer (some ⟨q, 0, none⟩), .int .i64 kd, .slice (some ⟨g, 0, none⟩) n n] w1 fun ev w' => ev = .returned (.tuple #[.int .u64 (((ax : Int) + 1) * 4), .nilIface]) ∧ (w'.cell? ⟨bk, 0, none⟩ = some (.int .i64 kd) ∧ w'.cell? ⟨bs, 0, none⟩ = some (.int .i64 (n : Int)) ∧ w'.cell? ⟨bh, 0, none⟩ = some (.pointer (some ⟨q, 0, none⟩))) ∧
      HeapIs q p bW bR bC nW nR nC half old card used (top + (1 + (n : Int))) oldTop tn sr (laidW cW ax ((n : Int) * 65536 + kd * 4 + 3) (List.replicate n 2)) cR cC w' ∧ Below B w w') := fun g w1 b1 hg hgs => by
    have hlen : (List.replicate n (2 : Int)).length = n := List.length_replicate
    have h := lay_ok q p bW bR bC nW nR nC half old card used top oldTop tn sr cW cR cC kd (List.replicate n 2) g ax B w1 (HH.out.below b1) HWR.out HCW.out (by rw [hg]; simp [wordsV]) (by have := lt_of_heap HH.out.hW; omega) (by omega) k1 (by omega) h0 (by omega) h2 HU.out HAX.out (by omega) hBp hBW (Nat.le_trans hBs b1.size)
    rw [hlen] at h
    refine h.mono ?_
    rintro ev w' ⟨rfl, H', b', F'⟩
    refine ⟨rfl, ⟨?_, ?_, ?_⟩, H', (b1.mono hBs).trans b'⟩
    · exact (World.cell?_of_block (a := ⟨bk, 0, none⟩) ((F' bk (by have := b1.size; omega) (by omega) (by omega)).trans (b1.block _ hbk))).trans ck
    · exact (World.cell?_of_block (a := ⟨bs, 0, none⟩) ((F' bs (by have := b1.size; omega) (by omega) (by omega)).trans (b1.block _ hbs))).trans cs
    · exact (World.cell?_of_block (a := ⟨bh, 0, none⟩) ((F' bh (by have := b1.size; omega) (by omega) (by omega)).trans (b1.block _ hbh))).trans ch
  have HR : Hid (∀ qx w1, Below w.heap.size w w1 → w1.heap[qx]? = some (.cells #[.int .u64 2] 50) → Calls Tryz.prog 19 #[.slice (some ⟨qx, 0, none⟩) 1 1, .int .i64 (n : Int)] w1 fun ev w' => ∃ g, ev = .returned (.slice (some ⟨g, 0, none⟩) n n) ∧ w.heap.size ≤ g ∧ w'.heap[g]? = some (.cells (Array.replicate n (.int .u64 2)) 50) ∧ Below w.heap.size w w') := fun qx w1 b1 hq => by
    refine (repeat_any 2 n (by omega) qx 0 w1 (by rw [cell_of_row _ _ _ _ _ _ hq]; rfl)).mono ?_
    rintro ev w' ⟨g, rfl, hg, hr, hb⟩
    exact ⟨g, rfl, Nat.le_trans b1.size hg, hr, b1.trans (hb.mono b1.size)⟩
  have HA : Hid (∀ W, Below w.heap.size w W → W.cell? ⟨bk, 0, none⟩ = some (.int .i64 kd) ∧ W.cell? ⟨bs, 0, none⟩ = some (.int .i64 (n : Int)) ∧ W.cell? ⟨bh, 0, none⟩ = some (.pointer (some ⟨q, 0, none⟩))) := fun W b => ⟨(b.cell (p := ⟨bk, 0, none⟩) hbk).trans ck, (b.cell (p := ⟨bs, 0, none⟩) hbs).trans cs, (b.cell (p := ⟨bh, 0, none⟩) hbh).trans ch⟩
  have HRA := toHid (HR.out w.heap.size (w.alloc (.cells #[.int .u64 2] 50)).drew (((Below.refl _ _).alloc (Nat.le_refl _) _).drew) (heap_alloc_new _ _))
  have HAA := toHid (HA.out (w.alloc (.cells #[.int .u64 2] 50)).drew (((Below.refl _ _).alloc (Nat.le_refl _) _).drew))
  have HA0 := toHid (HA.out w.drew (Below.refl _ _).drew)
  clear H hWR hcw hu hax HR
  go_enter Tryz.func21, Tryz.ntmps21
  go_wp2_with fail
  refine (kw1 _).mono ?_
  rintro ev w1 ⟨rfl, e1⟩
  rw [e1]
  clear e1 w1
  go_wp2_with fail
  refine (kw2 _).mono ?_
  rintro ev w1 ⟨rfl, e1⟩
  rw [e1]
  clear e1 w1
  clear kw1 kw2
  go_upto_region 3 with fail
  go_region_held3 (fun W => W.cell? ⟨bk, 0, none⟩ = some (.int .i64 kd) ∧ W.cell? ⟨bs, 0, none⟩ = some (.int .i64 (n : Int)) ∧ W.cell? ⟨bh, 0, none⟩ = some (.pointer (some ⟨q, 0, none⟩))) (first | with_reducible exact hS | with_reducible exact HA.out _ hb | with_reducible exact HA0.out | with_reducible exact HAA.out) (first | (go_at_call 19; refine HRA.out.mono ?_; rintro ev w2 ⟨g, rfl, hg, hr, hb⟩) | (go_at_call 22; refine (HL.out _ _ hb hr hg).mono ?_; rintro ev w3 ⟨rfl, hS, H3, B3⟩))
  all_goals go_wp2_with fail
  all_goals go_ret2
  all_goals exact ⟨rfl, H3, B3⟩
set_option maxHeartbeats 2000000 in
theorem hmake_ok (q p bW bR bC nW nR nC : Nat) (half old card used top oldTop tn sr : Int) (cW cR cC : Array Value) (kd x : Int) (r n ax B : Nat) (w : World) (H : HeapIs q p bW bR bC nW nR nC half old card used top oldTop tn sr cW cR cC w) (hWR : bW ≠ bR) (hcw : cW.size = nW) (hr : r < nR) (hnR : nR ≤ 5000) (hx : cR[r]? = some (.int .u64 x))
    (k0 : 8 ≤ kd) (k1 : kd ≤ 255) (hf : n ≤ 4096) (h0 : 0 ≤ top) (hn : top + (1 + (n : Int)) ≤ half) (h2 : half ≤ 65536) (hu : used = 0 ∨ used = 1) (hax : (ax : Int) = used * half + top) (hlt : ax + 1 + n < nW) (hBp : B ≤ p) (hBW : B ≤ bW) (hBR : B ≤ bR) (hBs : B ≤ w.heap.size) :
    Calls Tryz.prog 7 #[.pointer (some ⟨q, 0, none⟩), .int .i64 (r : Int), .int .i64 kd, .int .i64 (n : Int)] w fun ev w' => ev = .returned .nilIface ∧
      HeapIs q p bW bR bC nW nR nC half old card used (top + (1 + (n : Int))) oldTop tn sr (laidW cW ax ((n : Int) * 65536 + kd * 4 + 3) (List.replicate n 2)) (cR.setIfInBounds r (.int .u64 (((ax : Int) + 1) * 4))) cC w' ∧ Below B w w' := by
  obtain ⟨w1, hw1⟩ : ∃ w1, w1 = ((w.alloc (.cells #[.pointer (some ⟨q, 0, none⟩)] 24)).alloc (.cells #[.int .i64 kd] 3)).alloc (.cells #[.int .i64 (n : Int)] 3) := ⟨_, rfl⟩
  have b1 : Below w.heap.size w w1 := by rw [hw1]; exact (((Below.refl _ _).alloc (Nat.le_refl _) _).alloc (by simp) _).alloc (by simp; omega) _
  have H1 := H.below b1
  have lp := lt_of_heap H.hp
  have lW := lt_of_heap H.hW
  obtain ⟨n1, n2⟩ := two_new w (.cells #[.pointer (some ⟨q, 0, none⟩)] 24) (.cells #[.int .i64 kd] 3)
  have b2 : Below (w.heap.size + 2) ((w.alloc (.cells #[.pointer (some ⟨q, 0, none⟩)] 24)).alloc (.cells #[.int .i64 kd] 3)) w1 := by rw [hw1]; exact (Below.refl _ _).alloc (by simp) _
  have n1' := (b2.block _ (by omega)).trans n1
  have n2' := (b2.block _ (by omega)).trans n2
  have n3 : w1.heap[w.heap.size + 1 + 1]? = some (.cells #[.int .i64 (n : Int)] 3) := by
    have h := heap_alloc_new ((w.alloc (.cells #[.pointer (some ⟨q, 0, none⟩)] 24)).alloc (.cells #[.int .i64 kd] 3)) (.cells #[.int .i64 (n : Int)] 3)
    rw [← hw1] at h
    simpa using h
  have ch : w1.cell? ⟨w.heap.size, 0, none⟩ = some (.pointer (some ⟨q, 0, none⟩)) := by rw [cell_of_row _ _ _ _ _ _ n1']; rfl
  have ck : w1.cell? ⟨w.heap.size + 1, 0, none⟩ = some (.int .i64 kd) := by rw [cell_of_row _ _ _ _ _ _ n2']; rfl
  have cs : w1.cell? ⟨w.heap.size + 1 + 1, 0, none⟩ = some (.int .i64 (n : Int)) := by rw [cell_of_row _ _ _ _ _ _ n3]; rfl
  have km := hmake1 q p bW bR bC nW nR nC half old card used top oldTop tn sr cW cR cC kd n ax B (w.heap.size + 1) (w.heap.size + 1 + 1) w.heap.size w1 H1 hWR hcw ck cs ch ⟨by omega, by omega, by omega, by omega, by omega, by omega⟩ k0 k1 hf h0 hn h2 hu hax hlt hBp hBW (Nat.le_trans hBs b1.size)
  obtain ⟨c0, _, _, _, _, c7⟩ := H1.cells
  have cr : w1.cell? ⟨bR, r, none⟩ = some (.int .u64 x) := by rw [cell_of_row _ _ _ _ _ _ H1.hR]; exact hx
  have kb := become_ok 21 _ enterMake1 q p bR bR nR r x _ hr hnR _ w1 c0 c7 cr km (fun w' h => by
    have H' := h.1
    obtain ⟨d0, _, _, _, _, d7⟩ := H'.cells
    exact ⟨d0, d7, ⟨_, by rw [cell_of_row _ _ _ _ _ _ H'.hR]; exact hx⟩, notFrozen H'.hR⟩)
  rw [hw1] at kb
  have HW1 := toHid hw1
  have HB1 := toHid b1
  have HHs := toHid hBs
  have HN := toHid hWR
  clear hw1 n1 n2 n3 n1' n2' b1 b2 H1 km c0 c7 cr H hWR hx hBs ch ck cs
  go_enter Tryz.func7, Tryz.ntmps7
  go_wp2_with fail
  refine kb.mono ?_
  clear kb
  rintro ev w2 ⟨rfl, w3, ⟨H3, b3⟩, hw2⟩
  rw [← HW1.out] at b3
  have hB1 : Below B w w3 := (HB1.out.mono HHs.out).trans b3
  have H2 : Hid (HeapIs q p bW bR bC nW nR nC half old card used (top + (1 + (n : Int))) oldTop tn sr (laidW cW ax ((n : Int) * 65536 + kd * 4 + 3) (List.replicate n 2)) (cR.setIfInBounds r (.int .u64 (((ax : Int) + 1) * 4))) cC w2 ∧ Below B w w2) := by
    show _ ∧ _
    rw [hw2]
    exact ⟨H3.setRoot HN.out _ _, hB1.setCell hBR _⟩
  clear hw2 b3 hB1 H3
  go_wp2_with fail
  go_ret
  exact ⟨rfl, H2.out⟩
end Go.Proofs.YtlkcbdinlfeoiabGreatDoor
namespace Go.Proofs.YtlkcbdinlfeoiabGreatDoor
open Go.RowKit

def holdM : MD := ⟨8, 16, 4, 0, 2, 0, 65571 :: 2 :: List.replicate 30 0, [29, 4], [], [], List.replicate 4 false⟩
theorem holdM_shape : holdM.Shape [0] := by
  refine ⟨?_, ?_, ?_, ?_⟩
  · exact ⟨⟨by decide, by decide, by decide, by decide, by decide, by decide⟩, by decide, by decide, by decide, by decide, by decide, by decide, by decide, by decide⟩
  · decide
  · decide
  · decide
theorem holdM_cards : holdM.cardsB = true := by decide
theorem holdM_reach : holdM.reach [0] = [0] := by decide
theorem holdM_text : holdM.text [0] = ⟨#[114, 111, 111, 116, 32, 55, 10, 114, 111, 111, 116, 32, 64, 48, 10, 48, 32, 56, 32, 110, 111, 110, 101, 10]⟩ := by
  unfold MD.text
  rw [holdM_reach]
  kernel_rfl
theorem holdM_64 : MD64 holdM := ⟨(fun x hx => by revert x; decide), (fun x hx => by revert x; decide), (fun x hx => by cases hx), (fun x hx => by cases hx)⟩
theorem holdM_words : laidW (Array.replicate 32 (.int .u64 0)) 0 (((1 : Nat) : Int) * 65536 + 8 * 4 + 3) (List.replicate 1 2) = (wordsV holdM.W).toArray := by rfl
theorem holdM_roots : ((Array.replicate 2 (Value.int .u64 2)).setIfInBounds 0 (.int .u64 ((7 * 4 + 1) % 18446744073709551616))).setIfInBounds 1 (.int .u64 (((0 : Nat) + 1 : Int) * 4)) = (wordsV holdM.R).toArray := by rfl
theorem holdM_cardsV : Array.replicate 4 (Value.bool false) = (boolsV holdM.C).toArray := by rfl
set_option maxHeartbeats 4000000 in
set_option maxRecDepth 100000 in
theorem hold_any (a : Nat → Addr) (w : World) (E : HEnv a w) : Calls Tryz.prog 5 #[] w fun ev w' => ev = .returned (.bool true) ∧ Below w.heap.size w w' := by
  have kn := fun w => hnew_ok 8 16 4 1 2 32 4 (by decide) (by decide) ⟨⟨by decide, by decide, by decide, by decide, by decide, by decide⟩, by decide, by decide, by decide, by decide⟩ w
  have HE := toHid E
  clear E
  go_enter Tryz.func5, Tryz.ntmps5
  go_wp2_with fail
  refine (kn w).mono ?_
  clear kn
  rintro ev w1 ⟨q, p, g, rfl, h1, h2, h3, b1, H1⟩
  have hs1 := b1.size
  have k1 := hint_small q p (p + 1) g (p + 2) 32 2 4 8 16 4 0 0 0 1 0 _ _ _ 0 w.heap.size 7 2 (by decide) (by decide) w1 H1 (by omega) (by decide) (by decide) rfl (by omega) hs1
  have HB1 := toHid b1
  clear b1 H1 hs1
  go_wp2_with fail
  refine k1.mono ?_
  clear k1
  rintro ev w2 ⟨rfl, H2, b2⟩
  have hs2 := (HB1.out.trans b2).size
  have k2 := hmake_ok q p (p + 1) g (p + 2) 32 2 4 8 16 4 0 0 0 1 0 _ _ _ 8 2 1 1 0 w.heap.size w2 H2 (by omega) (by decide) (by decide) (by decide) rfl (by decide) (by decide) (by decide) (by decide) (by decide) (by decide) (Or.inl rfl) rfl (by decide) h1 (by omega) (by omega) hs2
  have HB2 := toHid (HB1.out.trans b2)
  clear b2 H2 hs2
  go_wp2_with fail
  refine k2.mono ?_
  clear k2
  rintro ev w3 ⟨rfl, H3, b3⟩
  have HB3 := toHid (HB2.out.trans b3)
  have H3' : HeapIs q p (p + 1) g (p + 2) holdM.W.length holdM.R.length holdM.C.length 8 16 4 0 2 0 1 0 (wordsV holdM.W).toArray (wordsV holdM.R).toArray (boolsV holdM.C).toArray w3 := by
    rw [← holdM_words, ← holdM_roots, ← holdM_cardsV]
    exact H3
  have ks := hshow_any a q p 1 0 holdM [0] holdM_shape holdM_cards holdM_64 (by decide) rfl rfl (fun f hf => by rw [holdM_reach] at hf; obtain rfl : f = 0 := (by simpa using hf); exact ⟨by decide, by decide⟩) (by rw [holdM_text]; decide) w3 (HE.out.below HB3.out).me (HE.out.below HB3.out).tab (HE.out.below HB3.out).tz H3'.at H3'.rep
  rw [holdM_text] at ks
  clear H3 H3' b3
  go_wp2_with fail
  refine ks.mono ?_
  clear ks
  rintro ev w4 ⟨rfl, b4⟩
  go_wp2_with fail
  go_ret
  exact ⟨rfl, HB3.out.trans (b4.mono HB3.out.size)⟩
end Go.Proofs.YtlkcbdinlfeoiabGreatDoor
namespace Go.Proofs.YtlkcbdinlfeoiabGreatDoor
open Go.RowKit

theorem laidVars_sub {P : Program} {w : World} {l l' : List (String × DataW Unit)} (h : l'.Sublist l) : ∀ ps, DataW.LaidVars P w l ps → ∃ qs, DataW.LaidVars P w l' qs ∧ qs.Sublist ps := by
  induction h with
  | slnil => intro ps hp; exact ⟨ps, hp, List.Sublist.refl _⟩
  | cons x _ ih =>
    intro ps hp
    obtain ⟨n, d⟩ := x
    obtain ⟨g, t, cs, fuel, p, q, _, _, _, _, hq, rfl⟩ := hp
    obtain ⟨qs, h1, h2⟩ := ih q hq
    exact ⟨qs, h1, h2.trans (List.sublist_append_right _ _)⟩
  | cons_cons x _ ih =>
    intro ps hp
    obtain ⟨n, d⟩ := x
    obtain ⟨g, t, cs, fuel, p, q, e1, e2, e3, e4, hq, rfl⟩ := hp
    obtain ⟨qs, h1, h2⟩ := ih q hq
    exact ⟨_, ⟨g, t, cs, fuel, p, qs, e1, e2, e3, e4, h1, rfl⟩, (List.Sublist.refl _).append h2⟩

theorem laidMet_sub {P : Program} {w : World} {l l' : List (String × DataW Unit)} (h : l'.Sublist l) (hl : laidMet P l w) : laidMet P l' w := by
  obtain ⟨ps, h1, h2, h3⟩ := hl
  obtain ⟨qs, k1, k2⟩ := laidVars_sub h ps h1
  exact ⟨qs, k1, h2.sublist k2, fun b off hm => h3 b off (k2.subset hm)⟩

theorem star : "*" ++ "errors.errorString" = "*errors.errorString" := by decide
theorem rowSp (u : TypeId) (h : Tryz.prog.typeName? 3 u = some "*errors.errorString") : u = 260 :=
  typeName_ptr_named (nm := "errors.errorString") (by rw [star]; kernel_rfl) (by kernel_rfl) (by decide) u (by rw [star]; exact h)
theorem cellsS : Tryz.prog.cellsOf 274 = 1 := by kernel_rfl
theorem cellsStr : Tryz.prog.cellsOf 9 = 1 := by kernel_rfl

end Go.Proofs.YtlkcbdinlfeoiabGreatDoor
namespace Go.Proofs.YtlkcbdinlfeoiabGreatDoor
open Go.RowKit

/-- An error's variable, as a row lists it. -/
def fourLaid (nm : String) (tl : List UInt8) : String × DataW Unit := (nm, .iface "*errors.errorString" (.ptr (.agg [.lit (.string ([110, 117, 114, 115, 101, 114, 121, 112, 121, 58, 32] ++ tl))])))
theorem four_one {W : World} (nm : String) (g : Nat) (tl : List UInt8) (hn : Tryz.prog.globalNamed nm = some g) (ht : (Tryz.prog.globals[g]?).map (·.type) = some 26) (h : laidMet Tryz.prog [fourLaid nm tl] W) : ∃ a : Addr, W.cell? ⟨g, 0, none⟩ = some (.iface 260 (.pointer (some a))) := by
  obtain ⟨a, s, h1, _⟩ := laid_sentinel h hn ht Tryz.underlying26 rowSp Tryz.underlying260 Tryz.underlying274 rfl rfl Tryz.underlying9 cellsS cellsStr
  exact ⟨a, by simpa using World.var?_cell hn h1 0⟩
/-- The row's list. -/
def fourL : List (String × DataW Unit) := [fourLaid "nurserypy/api.ErrBound" [98, 111, 117, 110, 100], fourLaid "nurserypy/api.ErrShape" [115, 104, 97, 112, 101], fourLaid "nurserypy/api.ErrPlace" [112, 108, 97, 99, 101], fourLaid "nurserypy/api.ErrFull" [102, 117, 108, 108]]
theorem four_errs {W : World} (h : laidMet Tryz.prog fourL W) : ∃ a : Nat → Addr, MErr a W := by
  obtain ⟨a1, v1⟩ := four_one _ 0 _ (by kernel_rfl) (by kernel_rfl) (laidMet_sub (.cons_cons _ (List.nil_sublist _)) h)
  obtain ⟨a2, v2⟩ := four_one _ 2 _ (by kernel_rfl) (by kernel_rfl) (laidMet_sub (.cons _ (.cons_cons _ (List.nil_sublist _))) h)
  obtain ⟨a4, v4⟩ := four_one _ 3 _ (by kernel_rfl) (by kernel_rfl) (laidMet_sub (.cons _ (.cons _ (.cons_cons _ (List.nil_sublist _)))) h)
  obtain ⟨a5, v5⟩ := four_one _ 1 _ (by kernel_rfl) (by kernel_rfl) (laidMet_sub (.cons _ (.cons _ (.cons _ (List.Sublist.refl _)))) h)
  exact ⟨fun i => if i = 1 then a1 else if i = 2 then a2 else if i = 4 then a4 else a5, v1, v2, v4, v5⟩
end Go.Proofs.YtlkcbdinlfeoiabGreatDoor
namespace Go.Proofs.YtlkcbdinlfeoiabGreatDoor
open Go.RowKit

def db64 : List Int := [0, 1, 56, 2, 57, 49, 28, 3, 61, 58, 42, 50, 38, 29, 17, 4, 62, 47, 59, 36, 45, 43, 51, 22, 53, 39, 33, 30, 24, 18, 12, 5, 63, 55, 48, 27, 60, 41, 37, 16, 46, 35, 44, 21, 52, 32, 23, 11, 54, 26, 40, 15, 34, 20, 31, 10, 25, 14, 19, 9, 13, 8, 7, 6]
theorem tab_pow {W : World} {x y : String × DataW Unit} {r : List (String × DataW Unit)} (h : laidMet Tryz.prog (x :: y :: ("internal/strconv.uint64pow10", Lib.tabData .u64 Lib.pow10Tab) :: r) W) : TabbedM W :=
  Lib.tabIs_of_head (g := 5) (t := 230) (e := 50) (n := 20) (by kernel_rfl) (by kernel_rfl) Tryz.underlying230 Tryz.underlying50 (by kernel_rfl) (by kernel_rfl) (laidMet.tail (laidMet.tail h))
theorem tab_tz {W : World} {x : String × DataW Unit} {r : List (String × DataW Unit)} (h : laidMet Tryz.prog (x :: ("math/bits.deBruijn64tab", Lib.tabData .u8 db64) :: r) W) : Tz16 W := by
  have h1 : Lib.TabIs Tryz.prog W "math/bits.deBruijn64tab" .u8 db64 := Lib.tabIs_of_head (g := 9) (t := 256) (e := 5) (n := 64) (by kernel_rfl) (by kernel_rfl) Tryz.underlying256 Tryz.underlying5 (by kernel_rfl) (by kernel_rfl) (laidMet.tail h)
  exact h1.cell (g := 9) (by kernel_rfl) 15 (by decide)
theorem heap_env4 {W : World} {x z y : String × DataW Unit} (h : laidMet Tryz.prog (x :: ("math/bits.deBruijn64tab", Lib.tabData .u8 db64) :: ("internal/strconv.uint64pow10", Lib.tabData .u64 Lib.pow10Tab) :: z :: (fourL ++ [y])) W) : ∃ a, HEnv a W := by
  obtain ⟨a, E⟩ := four_errs (laidMet_sub ((((List.sublist_append_left fourL [y]).cons z).cons _).cons _ |>.cons x) h)
  exact ⟨a, E, tab_pow h, tab_tz h⟩
end Go.Proofs.YtlkcbdinlfeoiabGreatDoor
