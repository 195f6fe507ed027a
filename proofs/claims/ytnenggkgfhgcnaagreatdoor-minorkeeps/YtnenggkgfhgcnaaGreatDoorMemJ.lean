/- memOf, by a walk. -/
import Derived.Test.YtnenggkgfhgcnaaGreatDoorMemI
import Derived.Deep.AppendLies
namespace Go.Proofs.YtnenggkgfhgcnaaGreatDoor
open Go.RowKit

theorem ids_next {T e : Nat} {w0 wr wb w2 : World} {B bx : Nat} {h ol c : Int} {v3 : Value} {u t ot : Int} {v7 v8 v9 v10 v : Value} {n k k' : Nat} {xs ys : List Value} (hB : Below B w0 wr) (hBb : B ≤ bx) (hO : OB T bx h ol c v3 u t ot v7 v8 v9 v10 wr) (hR : wr.ownsRow (bx + 1) e n v9 k xs) (hwb : Below wr.heap.size wr wb) (hg : wb.grownBy w2 v9.ownBlock) (ho : w2.ownsRow (bx + 1) e n v k' ys) :
    OB T bx h ol c v3 u t ot v7 v8 v9 v10 w2 ∧ OB T bx h ol c v3 u t ot v7 v8 v v10 (w2.setCell ⟨bx, 9, none⟩ v) ∧ (w2.setCell ⟨bx, 9, none⟩ v).ownsRow (bx + 1) e n v k' ys ∧ Below B w0 (w2.setCell ⟨bx, 9, none⟩ v) := by
  have hl := lt_of_heap hO
  have hz := hB.size
  have hwz := hwb.size
  have h1 : w2.heap[bx]? = wr.heap[bx]? := (hg.block bx (by omega) (fun e => by have := (own_lt2 hR bx e.symm).1; omega)).trans (hwb.block bx hl)
  have hO2 : OB T bx h ol c v3 u t ot v7 v8 v9 v10 w2 := h1.trans hO
  refine ⟨hO2, (heap_set_same hO2).trans rfl, ownsRow_far' ho (fun g hk => heap_set _ _ _ _ _ (by have := (own_lt2 ho g hk).1; omega)), Below.setCell ?_ hBb _⟩
  refine ⟨hg.os.trans (hwb.os.trans hB.os), hg.tape.trans (hwb.tape.trans hB.tape), hg.output.trans (hwb.output.trans hB.output), by have := hg.size; omega, fun g hgB => ?_⟩
  exact (hg.block g (by omega) (fun e => by have := (own_lt2 hR g e.symm).1; omega)).trans ((hwb.block g (by omega)).trans (hB.block g hgB))
theorem heap_alloc_old (w : World) (o : Obj) (k : Nat) (h : k < w.heap.size) : (w.alloc o).heap[k]? = w.heap[k]? := ((Below.refl w.heap.size w).alloc (Nat.le_refl _) o).block k h
set_option maxRecDepth 100000 in
theorem infoMID : ∃ i, Tryz.prog.info? 64 = some i ∧ i.zero = some (.agg #[.int .u64 0, .int .i64 0]) ∧ i.size = 2 ∧ i.bytes = 16 := by
  refine ⟨(Tryz.prog.info? 64).get (by kernel_rfl), ?_, ?_, ?_, ?_⟩
  · exact (Option.some_get _).symm
  · kernel_rfl
  · kernel_rfl
  · kernel_rfl
theorem two_one {x y : Int} : ∀ u ∈ [Value.int .u64 x, Value.int .i64 y], u.oneCell' = true := by
  intro u hu
  simp at hu
  rcases hu with rfl | rfl <;> rfl
theorem ids_take {l : List (Int × Int)} {k : Nat} {x : Int × Int} (h : l[k]? = some x) : idsV (l.take (k + 1)) = idsV (l.take k) ++ [.int .u64 x.1, .int .i64 x.2] := by
  rw [List.take_add_one, h]
  simp [idsV]

set_option maxHeartbeats 8000000 in
set_option maxRecDepth 100000 in
theorem memOf_any (p o : Nat) (m : MD) (w : World) (h : RepM p o m w) (b1 : m.W.length ≤ 300000) (b2 : m.R.length ≤ 300000) (b3 : m.K.length ≤ 300000) (b4 : m.I.length ≤ 300000) (b5 : m.C.length ≤ 300000) :
    Calls Tryz.prog 11 #[.pointer (some ⟨p, o, none⟩)] w fun ev w' => ∃ bx, ev = .returned (.pointer (some ⟨bx, 0, none⟩)) ∧ w.heap.size ≤ bx ∧ RepM bx 0 m w' ∧ Below w.heap.size w w' := by
  obtain ⟨_, _, _, _, _, hp, M, ⟨aW, cW, rfl, rW⟩, ⟨aR, cR, rfl, rR⟩, ⟨aK, cK, rfl, rK⟩, ⟨aI, cI, rfl, rI⟩, ⟨aC, cC, rfl, rC⟩⟩ := h
  go_enter Tryz.func11, Tryz.ntmps11
  go_wp2_with fail
  refine (own_any p o m.half m.old m.card m.used m.top m.oldTop w hp aW m.W.length cW (wordsV m.W) (by rw [lenV]; omega) (RowV.src ⟨_, _, rfl, rW⟩) (one_words _) b1 aR m.R.length cR (wordsV m.R) (by rw [lenV]; omega) (RowV.src ⟨_, _, rfl, rR⟩) (one_words _) b2 aK m.K.length cK (wordsV m.K) (by rw [lenV]; omega) (RowV.src ⟨_, _, rfl, rK⟩) (one_words _) b3 aI m.I.length cI (idsV m.I) (lenI _) (RowV.src ⟨_, _, rfl, rI⟩) (one_ids _) b4 aC m.C.length cC (boolsV m.C) (by rw [lenB]; omega) (RowV.src ⟨_, _, rfl, rC⟩) (one_bools _) b5 M).mono ?_
  rintro ev w1 ⟨a3, a7, a8, a9, a10, k3, k7, k8, k9, k10, rfl, hS⟩
  clear rW rR rK rI rC M
  obtain ⟨hb1, _, hO, _, _, ⟨o3, _⟩, _, _, ⟨o7, _⟩, _, _, ⟨o8, _⟩, _, _, ⟨o9, _⟩, _, _, ⟨o10, _⟩, _⟩ := hS
  obtain ⟨M1, _⟩ := hO.mem
  have R3 := toHid (rowV_own o3)
  have R7 := toHid (rowV_own o7)
  have R8 := toHid (rowV_own o8)
  have R9 := toHid (rowV_own o9)
  have R10 := toHid (rowV_own o10)
  clear o3 o7 o8 o9 o10 hO
  have hl1 := lt_of_cell M1.c0
  have HM1 := toHid M1
  obtain ⟨c0, c1, c2, c3, c4, c5, c6, c7, c8, c9, c10⟩ := M1
  go_upto_region 4 with fail
  go_cut [4] from 6 to 87 (fun v wx => v = .pointer (some ⟨w1.heap.size, 0, none⟩) ∧ ∃ q, wx = (w1.alloc (.cells #[.int .i64 m.half, .int .i64 m.old, .int .i64 m.card, .slice a3 m.W.length k3, .int .i64 m.used, .int .i64 m.top, .int .i64 m.oldTop, .slice a7 m.R.length k7, .slice a8 m.K.length k8, .slice none 0 0, .slice a10 m.C.length k10] 55)).drewN q)
  case first =>
    go_region_held3 (fun W => W.cell? ⟨w.heap.size, 0, none⟩ = some (.int .i64 m.half) ∧ W.cell? ⟨w.heap.size, 1, none⟩ = some (.int .i64 m.old) ∧ W.cell? ⟨w.heap.size, 2, none⟩ = some (.int .i64 m.card) ∧ W.cell? ⟨w.heap.size, 3, none⟩ = some (.slice a3 m.W.length k3) ∧ W.cell? ⟨w.heap.size, 4, none⟩ = some (.int .i64 m.used) ∧ W.cell? ⟨w.heap.size, 5, none⟩ = some (.int .i64 m.top) ∧ W.cell? ⟨w.heap.size, 6, none⟩ = some (.int .i64 m.oldTop) ∧ W.cell? ⟨w.heap.size, 7, none⟩ = some (.slice a7 m.R.length k7) ∧ W.cell? ⟨w.heap.size, 8, none⟩ = some (.slice a8 m.K.length k8) ∧ W.cell? ⟨w.heap.size, 10, none⟩ = some (.slice a10 m.C.length k10)) (first | go_keep) (fail)
    all_goals (go_wp2_with fail; go_meet)
    all_goals exact ⟨rfl, 1, rfl⟩
  case rest =>
    obtain ⟨rfl, q, hq⟩ := hcut
    have hb2 : Below w1.heap.size w1 wc := by rw [hq]; exact below_drewN ((Below.refl _ _).alloc (Nat.le_refl _) _)
    have hO2 : OB 55 w1.heap.size m.half m.old m.card (.slice a3 m.W.length k3) m.used m.top m.oldTop (.slice a7 m.R.length k7) (.slice a8 m.K.length k8) (.slice none 0 0) (.slice a10 m.C.length k10) wc := by rw [hq]; exact heap_alloc_new w1 _
    clear hq q c0 c1 c2 c3 c4 c5 c6 c7 c8 c10
    have HB2 := toHid hb2
    have HO2 := toHid hO2
    clear hb2 hO2
    go_wp2_with fail
    go_loopg [5] (m.I.length + 1) (fun gk v5 wr => ∃ (k : Nat) (a : Option Addr) (ca : Nat), gk = m.I.length + 1 - k ∧ k ≤ m.I.length ∧ v5 = .int .i64 (k : Int) ∧ Below w1.heap.size w1 wr ∧ OB 55 w1.heap.size m.half m.old m.card (.slice a3 m.W.length k3) m.used m.top m.oldTop (.slice a7 m.R.length k7) (.slice a8 m.K.length k8) (.slice a k ca) (.slice a10 m.C.length k10) wr ∧ wr.ownsRow (w1.heap.size + 1) 64 2 (.slice a k ca) k (idsV (m.I.take k)))
    case atStart => exact ⟨0, none, 0, rfl, Nat.zero_le _, rfl, HB2.out, HO2.out, by simp [idsV], .inl ⟨rfl, rfl⟩⟩
    case round =>
      obtain ⟨k, a, ca, hgk, hk, hv5, hb, hO, hR⟩ := hrel
      subst hv5
      have HG := toHid hgk
      clear hgk
      have z9 := (hb.cell (p := ⟨w.heap.size, 9, none⟩) hl1).trans c9
      by_cases hlt : k < m.I.length
      · have hI : (k : Int) < (m.I.length : Int) := by omega
        have hI0 : (0 : Int) ≤ (k : Int) := by omega
        obtain ⟨x, hx⟩ : ∃ x, m.I[k]? = some x := ⟨_, List.getElem?_eq_getElem hlt⟩
        obtain ⟨_, _, e, _, f1⟩ := R9.out
        cases e
        obtain ⟨p1, o1, rfl, l1, g1⟩ := f1 (by omega)
        have r1 : wr.cell? ⟨p1, o1 + k * 2, none⟩ = some (.int .u64 x.1) := (hb.cell (p := ⟨p1, o1 + k * 2, none⟩) l1).trans (g1 _ _ (ids_at hx).1)
        have r2 : wr.cell? ⟨p1, o1 + k * 2 + 1, none⟩ = some (.int .i64 x.2) := (hb.cell (p := ⟨p1, o1 + k * 2 + 1, none⟩) l1).trans (by rw [Nat.add_assoc]; exact g1 _ _ (ids_at hx).2)
        obtain ⟨⟨y0, y1, y2, y3, y4, y5, y6, y7, y8, y9, y10⟩, yf⟩ := hO.mem
        have yf9 := yf 9
        have HR := toHid hR
        have HO := toHid hO
        have HB := toHid hb
        have HX := toHid hx
        have hlx := lt_of_heap hO
        have hsz := hb.size
        obtain ⟨i0, hi0, hz0, hz1, hz2⟩ := infoMID
        clear f1 g1 hx hR hO yf hb y0 y1 y2 y3 y4 y5 y6 y7 y8 y10
        go_upto_region 8 with fail
        go_region_law (first | (refine step_append_lies _ (by rfl) _ _ _ (by rfl) (w1.heap.size + 1) 64 i0 (.agg #[.int .u64 0, .int .i64 0]) 2 16 Tryz.underlying53 hi0 hz0 hz1 hz2 rfl (by decide) (.slice a k ca) k (idsV (m.I.take k)) rfl (by first | exact ownsRow_far' HR.out (fun g hg => heap_alloc_old _ _ _ (own_lt2 HR.out g hg).2)) ⟨wr.heap.size, 0, none⟩ 1 1 [.int .u64 x.1, .int .i64 x.2] rfl rfl (World.news_of_block (cs := #[.int .u64 x.1, .int .i64 x.2]) (t := 64) (heap_alloc_new _ _)) two_one (by decide) (by unfold maxLen; omega) (by omega) (by simp; omega) _ rfl ?_; intro g' cap' w2 hown2 hgrow2 hat2 hlt2; obtain ⟨hO2, hO3, hR3, hB3⟩ := ids_next HB.out (Nat.le_refl _) HO.out HR.out (((Below.refl _ _).alloc (Nat.le_refl _) _).drew) hgrow2 hown2; obtain ⟨⟨q0, q1, q2, q3, q4, q5, q6, q7, q8, q9, q10⟩, qf⟩ := OB.mem hO2; have qf9 := qf 9; have HO3 := toHid hO3; have HR3 := toHid hR3; have HB3 := toHid hB3; clear hown2 hgrow2 hat2 hlt2 hO2 hO3 hR3 hB3 qf q0 q1 q2 q3 q4 q5 q6 q7 q8 q10))
        all_goals go_wp2_with fail
        all_goals go_roundg (m.I.length + 1 - (k + 1))
        all_goals (first | (have := HG.out; omega) | exact ⟨k + 1, some ⟨g', 0, none⟩, cap', rfl, by omega, by go_num, HB3.out, HO3.out, by rw [ids_take HX.out]; exact HR3.out⟩)
      · obtain rfl : k = m.I.length := by omega
        have HO := toHid hO
        have HR := toHid hR
        clear hO hR
        go_wp2_with fail
        go_ret
        rw [List.take_length] at HR
        exact ⟨w1.heap.size, rfl, hb1.size, ⟨_, _, _, _, _, lt_of_heap HO.out, HO.out.mem.1.memO, R3.out.below hb, R7.out.below hb, R8.out.below hb, rowV_own HR.out, R10.out.below hb⟩, hb1.trans (hb.mono hb1.size)⟩
end Go.Proofs.YtnenggkgfhgcnaaGreatDoor
