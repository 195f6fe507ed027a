/- memBack, by a walk. -/
import Derived.Test.YtnenggkgfhgcnaaGreatDoorMemJ
namespace Go.Proofs.YtnenggkgfhgcnaaGreatDoor
open Go.RowKit

set_option maxHeartbeats 8000000 in
set_option maxRecDepth 100000 in
theorem memBack_any (p : Nat) (m : MD) (w : World) (h : RepM p 0 m w) (b1 : m.W.length ≤ 300000) (b2 : m.R.length ≤ 300000) (b3 : m.K.length ≤ 300000) (b4 : m.I.length ≤ 300000) (b5 : m.C.length ≤ 300000) :
    Calls Tryz.prog 15 #[.pointer (some ⟨p, 0, none⟩)] w fun ev w' => ∃ bx, ev = .returned (.pointer (some ⟨bx, 0, none⟩)) ∧ w.heap.size ≤ bx ∧ RepM bx 0 m w' ∧ Below w.heap.size w w' := by
  obtain ⟨_, _, _, _, _, hp, ⟨c0, c1, c2, c3, c4, c5, c6, c7, c8, c9, c10⟩, ⟨a3, k3, rfl, rW⟩, ⟨a7, k7, rfl, rR⟩, ⟨a8, k8, rfl, rK⟩, ⟨a9, k9, rfl, rI⟩, ⟨a10, k10, rfl, rC⟩⟩ := h
  rw [Nat.zero_add] at c1 c2 c3 c4 c5 c6 c7 c8 c9 c10
  have R3 : Hid (RowV w (.slice a3 m.W.length k3) m.W.length (wordsV m.W)) := ⟨_, _, rfl, rW⟩
  have R7 : Hid (RowV w (.slice a7 m.R.length k7) m.R.length (wordsV m.R)) := ⟨_, _, rfl, rR⟩
  have R8 : Hid (RowV w (.slice a8 m.K.length k8) m.K.length (wordsV m.K)) := ⟨_, _, rfl, rK⟩
  have R9 : Hid (RowV w (.slice a9 m.I.length k9) m.I.length (idsV m.I)) := ⟨_, _, rfl, rI⟩
  have R10 : Hid (RowV w (.slice a10 m.C.length k10) m.C.length (boolsV m.C)) := ⟨_, _, rfl, rC⟩
  clear rW rR rK rI rC
  go_enter Tryz.func15, Tryz.ntmps15
  go_upto_region 3 with fail
  go_cut [3] from 5 to 85 (fun v wx => v = .pointer (some ⟨w.heap.size, 0, none⟩) ∧ ∃ q, wx = (w.alloc (.cells #[.int .i64 m.half, .int .i64 m.old, .int .i64 m.card, .slice a3 m.W.length k3, .int .i64 m.used, .int .i64 m.top, .int .i64 m.oldTop, .slice a7 m.R.length k7, .slice a8 m.K.length k8, .slice none 0 0, .slice a10 m.C.length k10] 30)).drewN q)
  case first =>
    go_region_held3 (fun W => W.cell? ⟨p, 0, none⟩ = some (.int .i64 m.half) ∧ W.cell? ⟨p, 1, none⟩ = some (.int .i64 m.old) ∧ W.cell? ⟨p, 2, none⟩ = some (.int .i64 m.card) ∧ W.cell? ⟨p, 3, none⟩ = some (.slice a3 m.W.length k3) ∧ W.cell? ⟨p, 4, none⟩ = some (.int .i64 m.used) ∧ W.cell? ⟨p, 5, none⟩ = some (.int .i64 m.top) ∧ W.cell? ⟨p, 6, none⟩ = some (.int .i64 m.oldTop) ∧ W.cell? ⟨p, 7, none⟩ = some (.slice a7 m.R.length k7) ∧ W.cell? ⟨p, 8, none⟩ = some (.slice a8 m.K.length k8) ∧ W.cell? ⟨p, 10, none⟩ = some (.slice a10 m.C.length k10)) (first | go_keep) (fail)
    all_goals (go_wp2_with fail; go_meet)
    all_goals exact ⟨rfl, 1, rfl⟩
  case rest =>
    obtain ⟨rfl, q, hq⟩ := hcut
    have hb2 : Below w.heap.size w wc := by rw [hq]; exact below_drewN ((Below.refl _ _).alloc (Nat.le_refl _) _)
    have hO2 : OB 30 w.heap.size m.half m.old m.card (.slice a3 m.W.length k3) m.used m.top m.oldTop (.slice a7 m.R.length k7) (.slice a8 m.K.length k8) (.slice none 0 0) (.slice a10 m.C.length k10) wc := by rw [hq]; exact heap_alloc_new w _
    clear hq q c0 c1 c2 c3 c4 c5 c6 c7 c8 c10
    have HB2 := toHid hb2
    have HO2 := toHid hO2
    clear hb2 hO2
    go_wp2_with fail
    go_loopg [4] (m.I.length + 1) (fun gk v4 wr => ∃ (k : Nat) (a : Option Addr) (ca : Nat), gk = m.I.length + 1 - k ∧ k ≤ m.I.length ∧ v4 = .int .i64 (k : Int) ∧ Below w.heap.size w wr ∧ OB 30 w.heap.size m.half m.old m.card (.slice a3 m.W.length k3) m.used m.top m.oldTop (.slice a7 m.R.length k7) (.slice a8 m.K.length k8) (.slice a k ca) (.slice a10 m.C.length k10) wr ∧ wr.ownsRow (w.heap.size + 1) 61 2 (.slice a k ca) k (idsV (m.I.take k)))
    case atStart => exact ⟨0, none, 0, rfl, Nat.zero_le _, rfl, HB2.out, HO2.out, by simp [idsV], .inl ⟨rfl, rfl⟩⟩
    case round =>
      obtain ⟨k, a, ca, hgk, hk, hv5, hb, hO, hR⟩ := hrel
      subst hv5
      have HG := toHid hgk
      clear hgk
      have z9 := (hb.cell (p := ⟨p, 9, none⟩) hp).trans c9
      by_cases hlt : k < m.I.length
      · have hI : (k : Int) < (m.I.length : Int) := by omega
        have hI0 : (0 : Int) ≤ (k : Int) := by omega
        obtain ⟨x, hx⟩ : ∃ x, m.I[k]? = some x := ⟨_, List.getElem?_eq_getElem hlt⟩
        obtain ⟨_, _, e, _, f1⟩ := R9.out
        cases e
        obtain ⟨p1, o1, rfl, l1, g1⟩ := f1 (by omega)
        have r1 : wr.cell? ⟨p1, o1 + k * 2, none⟩ = some (.int .u64 x.1) := (hb.cell (p := ⟨p1, o1 + k * 2, none⟩) l1).trans (g1 _ _ (ids_at hx).1)
        have r2 : wr.cell? ⟨p1, o1 + k * 2 + 1, none⟩ = some (.int .i64 x.2) := (hb.cell (p := ⟨p1, o1 + k * 2 + 1, none⟩) l1).trans (by rw [Nat.add_assoc]; exact g1 _ _ (ids_at hx).2)
        obtain ⟨⟨y0, y1, y2, y3, y4, y5, y6, y7, y8, y9, y10⟩, yf⟩ := hO.mem
        have yf9 := yf 9
        have HR := toHid hR
        have HO := toHid hO
        have HB := toHid hb
        have HX := toHid hx
        have hlx := lt_of_heap hO
        have hsz := hb.size
        obtain ⟨i0, hi0, hz0, hz1, hz2⟩ := infoRID
        clear f1 g1 hx hR hO yf hb y0 y1 y2 y3 y4 y5 y6 y7 y8 y10
        go_upto_region 7 with fail
        go_region_law (first | (refine step_append_lies _ (by rfl) _ _ _ (by rfl) (w.heap.size + 1) 61 i0 (.agg #[.int .u64 0, .int .i64 0]) 2 16 Tryz.underlying27 hi0 hz0 hz1 hz2 rfl (by decide) (.slice a k ca) k (idsV (m.I.take k)) rfl (by first | exact ownsRow_far' HR.out (fun g hg => heap_alloc_old _ _ _ (own_lt2 HR.out g hg).2)) ⟨wr.heap.size, 0, none⟩ 1 1 [.int .u64 x.1, .int .i64 x.2] rfl rfl (World.news_of_block (cs := #[.int .u64 x.1, .int .i64 x.2]) (t := 61) (heap_alloc_new _ _)) two_one (by decide) (by unfold maxLen; omega) (by omega) (by simp; omega) _ rfl ?_; intro g' cap' w2 hown2 hgrow2 hat2 hlt2; obtain ⟨hO2, hO3, hR3, hB3⟩ := ids_next HB.out (Nat.le_refl _) HO.out HR.out (((Below.refl _ _).alloc (Nat.le_refl _) _).drew) hgrow2 hown2; obtain ⟨⟨q0, q1, q2, q3, q4, q5, q6, q7, q8, q9, q10⟩, qf⟩ := OB.mem hO2; have qf9 := qf 9; have HO3 := toHid hO3; have HR3 := toHid hR3; have HB3 := toHid hB3; clear hown2 hgrow2 hat2 hlt2 hO2 hO3 hR3 hB3 qf q0 q1 q2 q3 q4 q5 q6 q7 q8 q10))
        all_goals go_wp2_with fail
        all_goals go_roundg (m.I.length + 1 - (k + 1))
        all_goals (first | (have := HG.out; omega) | exact ⟨k + 1, some ⟨g', 0, none⟩, cap', rfl, by omega, by go_num, HB3.out, HO3.out, by rw [ids_take HX.out]; exact HR3.out⟩)
      · obtain rfl : k = m.I.length := by omega
        have HO := toHid hO
        have HR := toHid hR
        have hl := lt_of_heap hO
        clear hO hR
        go_wp2_with fail
        rw [List.take_length] at HR
        refine (own_any w.heap.size 0 m.half m.old m.card m.used m.top m.oldTop wr hl a3 m.W.length k3 (wordsV m.W) (by rw [lenV]; omega) (R3.out.below hb).src (one_words _) b1 a7 m.R.length k7 (wordsV m.R) (by rw [lenV]; omega) (R7.out.below hb).src (one_words _) b2 a8 m.K.length k8 (wordsV m.K) (by rw [lenV]; omega) (R8.out.below hb).src (one_words _) b3 a m.I.length ca (idsV m.I) (lenI _) (rowV_own HR.out).src (one_ids _) b4 a10 m.C.length k10 (boolsV m.C) (by rw [lenB]; omega) (R10.out.below hb).src (one_bools _) b5 HO.out.mem.1.memO).mono ?_
        rintro ev w3 ⟨e3, e7, e8, e9, e10, j3, j7, j8, j9, j10, rfl, hS⟩
        go_wp2_with fail
        go_ret
        obtain ⟨hbS, _, hOS, _, _, ⟨s3, _⟩, _, _, ⟨s7, _⟩, _, _, ⟨s8, _⟩, _, _, ⟨s9, _⟩, _, _, ⟨s10, _⟩, _⟩ := hS
        exact ⟨wr.heap.size, rfl, hb.size, ⟨_, _, _, _, _, lt_of_heap hOS, hOS.mem.1.memO, rowV_own s3, rowV_own s7, rowV_own s8, rowV_own s9, rowV_own s10⟩, hb.trans (hbS.mono hb.size)⟩
end Go.Proofs.YtnenggkgfhgcnaaGreatDoor
