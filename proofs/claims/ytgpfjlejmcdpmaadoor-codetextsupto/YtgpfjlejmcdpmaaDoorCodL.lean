/- Package code: Verify of code that goes straight on, by a walk. -/
import Derived.Test.YtgpfjlejmcdpmaaDoorCodK
namespace Go.Proofs.YtgpfjlejmcdpmaaDoor
open Go.RowKit

def errV (a : Nat → Addr) (k : Nat) : Value := .iface 142 (.pointer (some (a k)))
set_option maxHeartbeats 4000000 in
set_option maxRecDepth 100000 in
theorem verify_big (a : Nat → Addr) (bF oF nF cF : Nat) (ob oo L cp : Nat → Nat) (nm : Nat → Nat → ByteArray) (aI aN : Option Addr) (nI nN cI cN : Nat) (hn : nF ≤ 1000) (hbig : 20000 < sumL L nF ∨ 400 < nF ∨ 2000 < nI ∨ 2000 < nN) (w : World) (E : Errs a w) (hC : CodeAt w bF oF nF ob oo L cp nm) :
    Calls Tryd.prog 13 #[.agg #[.slice (some ⟨bF, oF, none⟩) nF cF, .slice aI nI cI, .slice none 0 0, .slice aN nN cN]] w fun ev w' => ev = .returned (errV a 1) ∧ Below w.heap.size w w' := by
  have hba : Below w.heap.size w (w.alloc (.cells #[.slice (some ⟨bF, oF, none⟩) nF cF, .slice aI nI cI, .slice none 0 0, .slice aN nN cN] 32)) := (Below.refl _ _).alloc (Nat.le_refl _) _
  have kc := count_any bF oF nF cF ob oo L cp nm (.slice aI nI cI) (.slice none 0 0) (.slice aN nN cN) hn _ (hC.below hba)
  have hnb := heap_alloc_new w (.cells #[.slice (some ⟨bF, oF, none⟩) nF cF, .slice aI nI cI, .slice none 0 0, .slice aN nN cN] 32)
  have HE := toHid E
  clear hC E
  generalize sumL L nF = sm at *
  unfold errV
  go_enter Tryd.func13, Tryd.ntmps13
  go_wp2_with fail
  refine kc.mono ?_
  rintro ev w1 ⟨rfl, hb1⟩
  have hb := hba.trans (hb1.mono hba.size)
  have k1 := (HE.out.below hb).c1
  have hq := (hb1.block w.heap.size (by simp)).trans hnb
  obtain ⟨q1, hq1⟩ : ∃ q1, q1 = w.heap.size := ⟨_, rfl⟩
  rw [← hq1] at hq ⊢
  have x0 : w1.cell? ⟨q1, 0, none⟩ = some (.slice (some ⟨bF, oF, none⟩) nF cF) := (cell_of_row _ _ 0 _ _ _ hq).trans rfl
  have x1 : w1.cell? ⟨q1, 1, none⟩ = some (.slice aI nI cI) := (cell_of_row _ _ 1 _ _ _ hq).trans rfl
  have x2 : w1.cell? ⟨q1, 2, none⟩ = some (.slice none 0 0) := (cell_of_row _ _ 2 _ _ _ hq).trans rfl
  have x3 : w1.cell? ⟨q1, 3, none⟩ = some (.slice aN nN cN) := (cell_of_row _ _ 3 _ _ _ hq).trans rfl
  clear kc hba hnb hb1 hq hq1
  by_cases b1 : 20000 < (sm : Int)
  · go_wp2_with fail
    go_ret
    exact ⟨rfl, hb⟩
  · by_cases b2 : 400 < (nF : Int)
    · go_wp2_with fail
      go_ret
      exact ⟨rfl, hb⟩
    · by_cases b3 : 2000 < (nI : Int)
      · go_wp2_with fail
        go_ret
        exact ⟨rfl, hb⟩
      · have b4 : 2000 < (nN : Int) := by omega
        go_wp2_with fail
        go_ret
        exact ⟨rfl, hb⟩
set_option maxHeartbeats 4000000 in
set_option maxRecDepth 100000 in
theorem verify_ok (bF oF nF cF : Nat) (ob oo L cp : Nat → Nat) (nm : Nat → Nat → ByteArray) (V A T P : Nat → Nat → Int) (aI aN : Option Addr) (nI nN cI cN : Nat) (h0 : 0 < nF) (s1 : sumL L nF ≤ 20000) (s2 : nF ≤ 400) (s3 : nI ≤ 2000) (s4 : nN ≤ 2000) (hS : ∀ i, i < nF → Straight (nm i) (V i) (A i) (T i) (P i) (L i)) (hN : ∀ i, i < nF → ∀ j, j < L i → OkName i (nm i j)) (w : World) (hC : CodeAt w bF oF nF ob oo L cp nm) :
    Calls Tryd.prog 13 #[.agg #[.slice (some ⟨bF, oF, none⟩) nF cF, .slice aI nI cI, .slice none 0 0, .slice aN nN cN]] w fun ev w' => ev = .returned .nilIface ∧ Below w.heap.size w w' := by
  have hba : Below w.heap.size w (w.alloc (.cells #[.slice (some ⟨bF, oF, none⟩) nF cF, .slice aI nI cI, .slice none 0 0, .slice aN nN cN] 32)) := (Below.refl _ _).alloc (Nat.le_refl _) _
  have kc := count_any bF oF nF cF ob oo L cp nm (.slice aI nI cI) (.slice none 0 0) (.slice aN nN cN) (by omega) _ (hC.below hba)
  have hnb := heap_alloc_new w (.cells #[.slice (some ⟨bF, oF, none⟩) nF cF, .slice aI nI cI, .slice none 0 0, .slice aN nN cN] 32)
  have HC := toHid hC
  have HS := toHid hS
  have HN := toHid hN
  clear hC hS hN
  generalize sumL L nF = sm at *
  go_enter Tryd.func13, Tryd.ntmps13
  go_wp2_with fail
  refine kc.mono ?_
  rintro ev w1 ⟨rfl, hb1⟩
  have hb := hba.trans (hb1.mono hba.size)
  have hq := (hb1.block w.heap.size (by simp)).trans hnb
  obtain ⟨q1, hq1⟩ : ∃ q1, q1 = w.heap.size := ⟨_, rfl⟩
  rw [← hq1] at hq ⊢
  have x0 : w1.cell? ⟨q1, 0, none⟩ = some (.slice (some ⟨bF, oF, none⟩) nF cF) := (cell_of_row _ _ 0 _ _ _ hq).trans rfl
  have x1 : w1.cell? ⟨q1, 1, none⟩ = some (.slice aI nI cI) := (cell_of_row _ _ 1 _ _ _ hq).trans rfl
  have x2 : w1.cell? ⟨q1, 2, none⟩ = some (.slice none 0 0) := (cell_of_row _ _ 2 _ _ _ hq).trans rfl
  have x3 : w1.cell? ⟨q1, 3, none⟩ = some (.slice aN nN cN) := (cell_of_row _ _ 3 _ _ _ hq).trans rfl
  have HQ := toHid hq
  have HB := toHid hb
  have b1 : ¬ 20000 < (sm : Int) := by omega
  have b2 : ¬ 400 < (nF : Int) := by omega
  have b3 : ¬ 2000 < (nI : Int) := by omega
  have b4 : ¬ 2000 < (nN : Int) := by omega
  have kd := counted_ok bF oF nF cF ob oo L cp nm h0 (by omega) w1 (HC.out.below hb)
  clear kc hba hnb hb1 hq hq1 hb
  go_wp2_with fail
  refine kd.mono ?_
  rintro ev w2 ⟨rfl, hb2⟩
  have hbw2 := HB.out.trans (hb2.mono HB.out.size)
  have hq2 := (hb2.block q1 (lt_of_heap HQ.out)).trans HQ.out
  have ks := shapes_any w2
  clear kd x0 x1 x2 x3
  go_wp2_with fail
  refine ks.mono ?_
  rintro ev w3 ⟨bm, rfl, hbm, hK3, hb3⟩
  have hbw3 := hbw2.trans (hb3.mono hbw2.size)
  have hq3 := (hb3.block q1 (lt_of_heap hq2)).trans hq2
  have x0 : w3.cell? ⟨q1, 0, none⟩ = some (.slice (some ⟨bF, oF, none⟩) nF cF) := (cell_of_row _ _ 0 _ _ _ hq3).trans rfl
  have HK3 : Hid (Known bm w3) := hK3
  have HQ3 := toHid hq3
  have HB3 := toHid hbw3
  clear ks hbw2 hq2 hK3 hb3 hb2 hq3 hbw3 HB HQ
  go_wp2_with fail
  clear x0
  go_loopg [43] (nF + 1) (fun gk v43 wr => ∃ i : Nat, gk = nF + 1 - i ∧ i ≤ nF ∧ v43 = .int .i64 (i : Int) ∧ Below w3.heap.size w3 wr)
  case atStart => exact ⟨0, rfl, Nat.zero_le _, rfl, Below.refl _ _⟩
  case round =>
    obtain ⟨i, hgk, hi, rfl, hbr⟩ := hrel
    have HG := toHid hgk
    clear hgk
    have hbw := HB3.out.trans (hbr.mono HB3.out.size)
    by_cases hlt : i < nF
    · have hJ : (i : Int) < (nF : Int) := by omega
      have hJ0 : (0 : Int) ≤ (i : Int) := by omega
      have Cr := HC.out.below hbw
      obtain ⟨c0, c1, c2, c3, c4, c5⟩ := Cr.func i hlt
      obtain ⟨w4, hw4⟩ : ∃ w4, w4 = wr.alloc (.cells #[.string ⟨#[]⟩, .int .i64 0, .int .i64 0, .int .i64 0, .int .i64 0, .slice (some ⟨ob i, oo i, none⟩) (L i) (cp i)] 39) := ⟨_, rfl⟩
      have hb4 : Below wr.heap.size wr w4 := by rw [hw4]; exact (Below.refl _ _).alloc (Nat.le_refl _) _
      have h4 : w4.heap[wr.heap.size]? = some (.cells #[.string ⟨#[]⟩, .int .i64 0, .int .i64 0, .int .i64 0, .int .i64 0, .slice (some ⟨ob i, oo i, none⟩) (L i) (cp i)] 39) := by rw [hw4]; exact heap_alloc_new wr _
      have hb34 := hbr.trans (hb4.mono hbr.size)
      have C4 := Cr.below hb4
      have K4 : Known bm w4 := HK3.out.below hb34
      have hq4 := (hb34.block q1 (lt_of_heap HQ3.out)).trans HQ3.out
      have y0 : w4.cell? ⟨q1, 0, none⟩ = some (.slice (some ⟨bF, oF, none⟩) nF cF) := (cell_of_row _ _ 0 _ _ _ hq4).trans rfl
      have y1 : w4.cell? ⟨q1, 1, none⟩ = some (.slice aI nI cI) := (cell_of_row _ _ 1 _ _ _ hq4).trans rfl
      have y2 : w4.cell? ⟨q1, 2, none⟩ = some (.slice none 0 0) := (cell_of_row _ _ 2 _ _ _ hq4).trans rfl
      have y3 : w4.cell? ⟨q1, 3, none⟩ = some (.slice aN nN cN) := (cell_of_row _ _ 3 _ _ _ hq4).trans rfl
      have kw := wellFormed_ok bF oF nF cF i (ob i) (oo i) (L i) (cp i) bm aI none aN nI 0 nN cI 0 cN (nm i) hlt (C4.few i hlt) (HN.out i hlt) w4 (C4.func i hlt) (C4.ops i hlt) (C4.lt i hlt) K4
      have HK4 := toHid K4
      have HC4 := toHid C4
      have H34 := toHid hb34
      have HW4 := toHid hw4
      obtain ⟨q5, hq5⟩ : ∃ q5, q5 = wr.heap.size := ⟨_, rfl⟩
      rw [← hq5] at h4
      have HH4 := toHid h4
      clear Cr C4 K4 hb4 hb34 hq4 hw4 h4
      go_upto_region 9 with fail
      rw [← HW4.out, ← hq5]
      clear c0 c1 c2 c3 c4 c5 HW4 hq5
      go_wp2_with fail
      refine kw.mono ?_
      rintro ev w5 ⟨rfl, hb5⟩
      have kf := flows_ok (ob i) (oo i) (L i) (cp i) bm (nm i) (V i) (A i) (T i) (P i) (HC4.out.few i hlt) (HS.out i hlt) w5 ((HC4.out.below hb5).ops i hlt) ((HC4.out.below hb5).lt i hlt) (HK4.out.below hb5)
      have z5 : w5.cell? ⟨q5, 5, none⟩ = some (.slice (some ⟨ob i, oo i, none⟩) (L i) (cp i)) := (cell_of_row _ _ 5 _ _ _ ((hb5.block q5 (lt_of_heap HH4.out)).trans HH4.out)).trans rfl
      clear kw y0 y1 y2 y3
      go_wp2_with fail
      refine kf.mono ?_
      rintro ev w6 ⟨rfl, hb6⟩
      have hbe := H34.out.trans ((hb5.trans (hb6.mono hb5.size)).mono H34.out.size)
      clear kf z5
      go_wp2_with fail
      go_roundg (nF + 1 - (i + 1))
      case measure => have := HG.out; omega
      case rel => exact ⟨i + 1, rfl, by omega, by go_num, hbe⟩
    · obtain rfl : i = nF := by omega
      go_wp2_with fail
      go_ret
      exact ⟨rfl, hbw⟩
end Go.Proofs.YtgpfjlejmcdpmaaDoor
