/- Package code: from, by a walk. -/
import Derived.Test.YtgpfjlejmcdpmaaDoorCodE
namespace Go.Proofs.YtgpfjlejmcdpmaaDoor
open Go.RowKit

/-- Ops in memory: names, and no number. -/
def OpsAt (w : World) (b o n : Nat) (nm : Nat → ByteArray) : Prop := ∀ i, i < n → w.cell? ⟨b, o + i * 2, none⟩ = some (.string (nm i)) ∧ w.cell? ⟨b, o + i * 2 + 1, none⟩ = some (.int .i64 0)
theorem OpsAt.below {w w' : World} {b o n B : Nat} {nm : Nat → ByteArray} (h : OpsAt w b o n nm) (hb : Below B w w') (hB : b < B) : OpsAt w' b o n nm := fun i hi => ⟨(hb.cell (p := ⟨b, o + i * 2, none⟩) hB).trans (h i hi).1, (hb.cell (p := ⟨b, o + i * 2 + 1, none⟩) hB).trans (h i hi).2⟩
theorem two_block {w : World} {b : Nat} {u0 u1 : Value} {t : TypeId} (h : w.heap[b]? = some (.cells #[u0, u1] t)) : w.cell? ⟨b, 0, none⟩ = some u0 ∧ w.cell? ⟨b, 1, none⟩ = some u1 ∧ ∀ o, w.frozen? ⟨b, o, none⟩ = false := by
  refine ⟨?_, ?_, fun o => by simp [World.frozen?, h]⟩
  · rw [cell_of_row w b 0 _ _ _ h]; rfl
  · rw [cell_of_row w b 1 _ _ _ h]; rfl
theorem two_made (w : World) (X Y : Obj) : ((w.alloc X).alloc Y).heap[w.heap.size]? = some X ∧ ((w.alloc X).alloc Y).heap[w.heap.size + 1]? = some Y ∧ Below w.heap.size w ((w.alloc X).alloc Y) := by
  refine ⟨(heap_alloc_old _ _ (by simp)).trans (heap_alloc_new w X), ?_, ((Below.refl _ _).alloc (Nat.le_refl _) _).alloc (by simp) _⟩
  have := heap_alloc_new (w.alloc X) Y
  simpa using this
set_option maxHeartbeats 8000000 in
set_option maxRecDepth 100000 in
theorem from_stop (w0 : World) (bf bo oo n co bm ga gc : Nat) (A : Nat → Int) (c i : Nat) (vW : Value) (k : Nat) (xs : List Value) (nm : Nat → ByteArray) (hi : i < c) (hcn : c ≤ n) (hO : OpsAt w0 bo oo n nm) (hbo : bo < w0.heap.size) (hK : Known bm w0) (a t p : Int) (hN : Named (nm i) a t p true) (ha : a ≠ 8) (t0 : 0 ≤ t) (t1 : t ≤ A i) (p0 : 0 ≤ p) (p1 : p ≤ 2) (v1 : A i ≤ 1000) (hs1 : ¬ (nm i).toList = [116, 114, 121]) (hs2 : ¬ (nm i).toList = [101, 110, 100]) (w : World) (F : FL w0 bf bo oo n co bm ga gc A c vW k xs w) :
    Calls Tryd.prog 40 #[.pointer (some ⟨bf, 0, none⟩), .int .i64 (i : Int)] w fun ev w' => ev = .returned (.bool true) ∧ FL w0 bf bo oo n co bm ga gc A c vW k xs w' := by
  obtain ⟨f0, f1, f2, _, _, _⟩ := flow_block F.flow
  obtain ⟨ca, hca, hcs, hcv⟩ := F.st
  have s0 : w.cell? ⟨ga, i * 2, none⟩ = some (.int .i64 (A i)) := (cell_of_row _ _ (i * 2) _ _ _ hca).trans (hcv i hi).1
  have s1 : w.cell? ⟨ga, i * 2 + 1, none⟩ = some (.int .i64 (-1)) := (cell_of_row _ _ (i * 2 + 1) _ _ _ hca).trans (hcv i hi).2
  obtain ⟨o0, o1⟩ := hO.below F.below hbo i (by omega)
  have hI : (i : Int) < (n : Int) := by omega
  have hI0 : (0 : Int) ≤ (i : Int) := by omega
  have lbf : bf < w.heap.size := lt_of_cell f0
  have lga : ga < w.heap.size := lt_of_cell s0
  have lbo : bo < w.heap.size := lt_of_cell o0
  have n1 : bf ≠ w.heap.size := by omega
  have n2 : ga ≠ w.heap.size := by omega
  have n3 : bo ≠ w.heap.size := by omega
  have n4 : bf ≠ w.heap.size + 1 := by omega
  have n5 : ga ≠ w.heap.size + 1 := by omega
  have n6 : bo ≠ w.heap.size + 1 := by omega
  have HF := toHid F
  have HF0 := toHid F
  have HBF : Hid (∀ q5 q6 q7 : Nat, q5 ≠ q6 → w.heap.size ≤ q5 → w.heap.size ≤ q6 → ∀ {h : Nat}, h ≤ q7 → q5 < h → q6 < h → q5 ≠ q6 ∧ q5 ≠ q7 ∧ q6 ≠ q7 ∧ w.heap.size ≤ q5 ∧ w.heap.size ≤ q6 ∧ w.heap.size ≤ q7 ∧ bf < w.heap.size) := fun q5 q6 q7 h1 h2 h3 {h} h4 h5 h6 => by omega
  generalize A i = v at *
  generalize nm i = s at *
  have e1 : IntKind.i64.wrap t = t := wrapI _ (by omega) (by omega)
  have e1' : IntKind.i64.wrap (t + 0) = t := by rw [Int.add_zero]; exact e1
  have e2 : IntKind.i64.wrap (v - t) = v - t := wrapI _ (by omega) (by omega)
  have e3 : IntKind.i64.wrap (v - t + p) = v - t + p := wrapI _ (by omega) (by omega)
  have e4 : (a == 8) = false := by rw [beq_eq_false_iff_ne]; exact ha
  have e5 : ¬ v < t := by omega
  have hs3 : (s.toList == [116, 114, 121]) = false := by rw [beq_eq_false_iff_ne]; exact hs1
  have hs4 : (s.toList == [101, 110, 100]) = false := by rw [beq_eq_false_iff_ne]; exact hs2
  clear F hca hcv
  go_enter Tryd.func40, Tryd.ntmps40
  go_upto_region 1 with fail
  go_cut [5, 6] from 9 to 22 (fun v5 v6 wx => ∃ q5 q6, v5 = .pointer (some ⟨q5, 0, none⟩) ∧ v6 = .pointer (some ⟨q6, 0, none⟩) ∧ q5 ≠ q6 ∧ w.heap.size ≤ q5 ∧ w.heap.size ≤ q6 ∧ wx.heap[q5]? = some (.cells #[.string s, .int .i64 0] 41) ∧ wx.heap[q6]? = some (.cells #[.int .i64 v, .int .i64 (-1)] 94) ∧ Below w.heap.size w wx)
  case first =>
    go_region
    all_goals go_wp2_with fail
    all_goals go_meet
    · have k := two_made w (.cells #[.string s, .int .i64 0] 41) (.cells #[.int .i64 v, .int .i64 (-1)] 94)
      exact ⟨_, _, rfl, rfl, by omega, by omega, by omega, k.1, k.2.1, k.2.2.drew⟩
    · have k := two_made w (.cells #[.int .i64 v, .int .i64 (-1)] 94) (.cells #[.string s, .int .i64 0] 41)
      exact ⟨_, _, rfl, rfl, by omega, by omega, by omega, k.2.1, k.1, k.2.2.drew⟩
  case rest =>
    obtain ⟨q5, q6, rfl, rfl, hne, l5, l6, h5, h6, hb⟩ := hcut
    obtain ⟨w1, hw1⟩ : ∃ w1, w1 = wc := ⟨_, rfl⟩
    subst hw1
    have Fc := HF.out.keep hb
    obtain ⟨_, g1, _, _, _, _⟩ := flow_block Fc.flow
    have hKc : Known bm w1 := hK.same (Fc.below.block bm hK.lt)
    obtain ⟨x0, x1, xf⟩ := two_block h5
    obtain ⟨y0, y1, yf⟩ := two_block h6
    have L0 := (hN.look hKc).1
    have L1 := (hN.look (w := w1.drew) hKc).1
    have hKz : Known bm (w1.alloc (.cells #[.int .i64 0, .int .i64 0, .int .i64 0, .int .i64 0, .int .i64 0, .bool false] 62)) := hKc.below ((Below.refl _ _).alloc (Nat.le_refl _) _)
    have L2 := (hN.look hKz).1
    have L3 := (hN.look (w := (w1.alloc (.cells #[.int .i64 0, .int .i64 0, .int .i64 0, .int .i64 0, .int .i64 0, .bool false] 62)).drew) hKz).1
    have k1 : bf < w1.heap.size := lt_of_heap Fc.flow
    have k2 : q5 < w1.heap.size := lt_of_heap h5
    have k3 : q6 < w1.heap.size := lt_of_heap h6
    have m1 : bf ≠ w1.heap.size := by have := lt_of_heap Fc.flow; omega
    have m2 : q5 ≠ w1.heap.size := by have := lt_of_heap h5; omega
    have m3 : q6 ≠ w1.heap.size := by have := lt_of_heap h6; omega
    have HFc := toHid Fc
    have HB1 := toHid hb
    have H5 := toHid h5
    have H6 := toHid h6
    clear Fc f0 f1 f2 s0 s1 o0 o1 lbf lga lbo n1 n2 n3 n4 n5 n6 HF h5 h6 hb
    go_upto_region 2 with fail
    go_cut [7] from 23 to 29 (fun v7 wx => ∃ q7, v7 = .pointer (some ⟨q7, 0, none⟩) ∧ w1.heap.size ≤ q7 ∧ wx.heap[q7]? = some (.cells #[.int .i64 a, .int .i64 t, .int .i64 p, .int .i64 0, .int .i64 0, .bool true] 62) ∧ Below w1.heap.size w1 wx)
    case first =>
      go_region
      all_goals go_wp2_with fail
      all_goals go_meet
      all_goals exact ⟨_, rfl, Nat.le_refl _, heap_alloc_new w1 _, ((Below.refl _ _).alloc (Nat.le_refl _) _).drew⟩
    case rest =>
      obtain ⟨q7, rfl, l7, h7, hb2⟩ := hcut
      obtain ⟨w2, hw2⟩ : ∃ w2, w2 = wc := ⟨_, rfl⟩
      subst hw2
      have h5 := (hb2.block q5 k2).trans H5.out
      have h6 := (hb2.block q6 k3).trans H6.out
      have F2 := HFc.out.keep hb2
      obtain ⟨p50, p51, _⟩ := two_block h5
      obtain ⟨p60, p61, pf⟩ := two_block h6
      have pf0 := pf 0
      obtain ⟨z0, z1, z2, z3, z4, z5⟩ := shape_block h7
      have kf := free_any bf v w2
      have HF2 := toHid F2
      have HB2 : Hid (Below w.heap.size w w2) := HB1.out.trans (hb2.mono HB1.out.size)
      have H5' := toHid h5
      have H6' := toHid h6
      have H7' := toHid h7
      have HD : Hid (q5 ≠ q6 ∧ q5 ≠ q7 ∧ q6 ≠ q7 ∧ w.heap.size ≤ q5 ∧ w.heap.size ≤ q6 ∧ w.heap.size ≤ q7 ∧ bf < w.heap.size) := HBF.out q5 q6 q7 hne l5 l6 l7 k2 k3
      clear F2 h5 h6 h7 L0 L1 L2 L3 hKz hKc g1 x0 x1 xf y0 y1 yf m1 m2 m3 k1 k2 k3 HFc H5 H6 hb2 pf
      go_wp2_with fail
      refine kf.mono ?_
      rintro ev w3 ⟨rfl, hb3⟩
      have h5 := (hb3.block q5 (lt_of_heap H5'.out)).trans H5'.out
      have h6 := (hb3.block q6 (lt_of_heap H6'.out)).trans H6'.out
      have h7 := (hb3.block q7 (lt_of_heap H7'.out)).trans H7'.out
      have F3 := HF2.out.keep hb3
      have HF3 := toHid F3
      have HB3 : Hid (Below w.heap.size w w3) := HB2.out.trans (hb3.mono HB2.out.size)
      clear kf p50 p51 p60 p61 pf0 z0 z1 z2 z3 z4 z5
      obtain ⟨p50, p51, _⟩ := two_block h5
      obtain ⟨p60, p61, pf⟩ := two_block h6
      have pf0 := pf 0
      obtain ⟨z0, z1, z2, z3, z4, z5⟩ := shape_block h7
      have H5 := toHid h5
      have H6 := toHid h6
      have H7 := toHid h7
      clear F3 h5 h6 h7 HF2 H5' H6' H7' hb3 pf
      go_upto_region 7 with fail
      obtain ⟨w4, hw4⟩ : ∃ w4, w4 = w3.setCell ⟨q6, 0, none⟩ (.int .i64 (v - t)) := ⟨_, rfl⟩
      rw [← hw4]
      have h5 : w4.heap[q5]? = some (.cells #[.string s, .int .i64 0] 41) := by rw [hw4]; exact (heap_set _ _ _ _ _ HD.out.1).trans H5.out
      have h6 : w4.heap[q6]? = some (.cells #[.int .i64 (v - t), .int .i64 (-1)] 94) := by rw [hw4]; exact (heap_set_same H6.out).trans rfl
      have h7 : w4.heap[q7]? = some (.cells #[.int .i64 a, .int .i64 t, .int .i64 p, .int .i64 0, .int .i64 0, .bool true] 62) := by rw [hw4]; exact (heap_set _ _ _ _ _ (fun e => HD.out.2.2.1 e.symm)).trans H7.out
      have HB4 : Hid (Below w.heap.size w w4) := by rw [hw4]; exact HB3.out.setCell HD.out.2.2.2.2.1 _
      clear p50 p51 p60 p61 pf0 z0 z1 z2 z3 z4 z5
      obtain ⟨p50, p51, _⟩ := two_block h5
      obtain ⟨p60, p61, pf⟩ := two_block h6
      have pf0 := pf 0
      obtain ⟨z0, z1, z2, z3, z4, z5⟩ := shape_block h7
      have G5 := toHid h5
      have G6 := toHid h6
      have G7 := toHid h7
      clear h5 h6 h7 hw4 H5 H6 H7 HF3 HB3 pf
      go_wp2_with fail
      go_ret
      exact ⟨rfl, HF0.out.keep (HB4.out.setCell HD.out.2.2.2.2.1 _)⟩
end Go.Proofs.YtgpfjlejmcdpmaaDoor
