/- memOf, with the rows' own blocks, by a walk. -/
import Derived.Test.YtnenggkgfhgcnaaGreatDoorJnM
namespace Go.Proofs.YtnenggkgfhgcnaaGreatDoor
open Go.RowKit

/-- A memory of the program's, of one's own, from block B on; its rows lie apart. -/
def OwnP (B bx : Nat) (m : MD) (w : World) : Prop := ∃ vW vR vK vI vC, B ≤ bx ∧ OB 55 bx m.half m.old m.card vW m.used m.top m.oldTop vR vK vI vC w ∧ w.ownsRow B 50 1 vW m.W.length (wordsV m.W) ∧ w.ownsRow B 50 1 vR m.R.length (wordsV m.R) ∧ w.ownsRow B 50 1 vK m.K.length (wordsV m.K) ∧ w.ownsRow B 64 2 vI m.I.length (idsV m.I) ∧ w.ownsRow B 4 1 vC m.C.length (boolsV m.C) ∧
  (∀ v ∈ [vW, vR, vK, vI, vC], v.ownBlock ≠ some bx) ∧ (∀ v ∈ [vR, vK, vI, vC], ∀ g, vW.ownBlock = some g → v.ownBlock ≠ some g) ∧ (∀ v ∈ [vW, vR, vK, vI], ∀ g, vC.ownBlock = some g → v.ownBlock ≠ some g)
theorem OwnP.repP {B bx : Nat} {m : MD} {w : World} (h : OwnP B bx m w) : RepP bx m w := by
  obtain ⟨vW, vR, vK, vI, vC, _, hO, r1, r2, r3, r4, r5, _⟩ := h
  exact ⟨vW, vR, vK, vI, vC, lt_of_heap hO, (OB.mem hO).1, row0_own r1, rowV_own r2, rowV_own r3, rowV_own r4, row0_own r5⟩
theorem rowIn_not {w : World} {lo hi e s n g : Nat} {v : Value} {xs : List Value} (h : RowIn w lo hi e s v n xs) (hg : hi ≤ g) : v.ownBlock ≠ some g := fun e => by
  have := h.2 g e
  omega
theorem rowIn_far {w w' : World} {lo lo' hi e s n : Nat} {v : Value} {xs : List Value} (h : RowIn w lo hi e s v n xs) (hb : Below w.heap.size w w') (hl : lo' ≤ lo) : w'.ownsRow lo' e s v n xs := ownsRow_lo (ownsRow_far' h.1 (fun k hk => hb.block k (own_lt2 h.1 k hk).2)) hl
set_option maxHeartbeats 8000000 in
set_option maxRecDepth 100000 in
theorem memOf_own (p o : Nat) (m : MD) (w : World) (h : RepM p o m w) (b1 : m.W.length ≤ 300000) (b2 : m.R.length ≤ 300000) (b3 : m.K.length ≤ 300000) (b4 : m.I.length ≤ 300000) (b5 : m.C.length ≤ 300000) :
    Calls Tryz.prog 11 #[.pointer (some ⟨p, o, none⟩)] w fun ev w' => ∃ bx, ev = .returned (.pointer (some ⟨bx, 0, none⟩)) ∧ OwnP w.heap.size bx m w' ∧ Below w.heap.size w w' := by
  obtain ⟨_, _, _, _, _, hp, M, ⟨aW, cW, rfl, rW⟩, ⟨aR, cR, rfl, rR⟩, ⟨aK, cK, rfl, rK⟩, ⟨aI, cI, rfl, rI⟩, ⟨aC, cC, rfl, rC⟩⟩ := h
  go_enter Tryz.func11, Tryz.ntmps11
  go_wp2_with fail
  refine (own_any p o m.half m.old m.card m.used m.top m.oldTop w hp aW m.W.length cW (wordsV m.W) (by rw [lenV]; omega) (RowV.src ⟨_, _, rfl, rW⟩) (one_words _) b1 aR m.R.length cR (wordsV m.R) (by rw [lenV]; omega) (RowV.src ⟨_, _, rfl, rR⟩) (one_words _) b2 aK m.K.length cK (wordsV m.K) (by rw [lenV]; omega) (RowV.src ⟨_, _, rfl, rK⟩) (one_words _) b3 aI m.I.length cI (idsV m.I) (lenI _) (RowV.src ⟨_, _, rfl, rI⟩) (one_ids _) b4 aC m.C.length cC (boolsV m.C) (by rw [lenB]; omega) (RowV.src ⟨_, _, rfl, rC⟩) (one_bools _) b5 M).mono ?_
  rintro ev w1 ⟨a3, a7, a8, a9, a10, k3, k7, k8, k9, k10, rfl, hS⟩
  clear rW rR rK rI rC M
  obtain ⟨hb1, _, hO, t1, q1, s3, t2, q2, s7, t3, q3, s8, t4, q4, s9, t5, q5, s10, q6⟩ := hS
  obtain ⟨M1, _⟩ := hO.mem
  have S3 := toHid s3
  have S7 := toHid s7
  have S8 := toHid s8
  have S10 := toHid s10
  have R9 := toHid (rowV_own s9.1)
  have q6' : t5 ≤ w1.heap.size := q6
  clear s3 s7 s8 s9 s10 hO q6
  have hl1 := lt_of_cell M1.c0
  have HM1 := toHid M1
  obtain ⟨c0, c1, c2, c3, c4, c5, c6, c7, c8, c9, c10⟩ := M1
  go_upto_region 4 with fail
  go_cut [4] from 6 to 87 (fun v wx => v = .pointer (some ⟨w1.heap.size, 0, none⟩) ∧ ∃ q, wx = (w1.alloc (.cells #[.int .i64 m.half, .int .i64 m.old, .int .i64 m.card, .slice a3 m.W.length k3, .int .i64 m.used, .int .i64 m.top, .int .i64 m.oldTop, .slice a7 m.R.length k7, .slice a8 m.K.length k8, .slice none 0 0, .slice a10 m.C.length k10] 55)).drewN q)
  case first =>
    go_region_held3 (fun W => W.cell? ⟨w.heap.size, 0, none⟩ = some (.int .i64 m.half) ∧ W.cell? ⟨w.heap.size, 1, none⟩ = some (.int .i64 m.old) ∧ W.cell? ⟨w.heap.size, 2, none⟩ = some (.int .i64 m.card) ∧ W.cell? ⟨w.heap.size, 3, none⟩ = some (.slice a3 m.W.length k3) ∧ W.cell? ⟨w.heap.size, 4, none⟩ = some (.int .i64 m.used) ∧ W.cell? ⟨w.heap.size, 5, none⟩ = some (.int .i64 m.top) ∧ W.cell? ⟨w.heap.size, 6, none⟩ = some (.int .i64 m.oldTop) ∧ W.cell? ⟨w.heap.size, 7, none⟩ = some (.slice a7 m.R.length k7) ∧ W.cell? ⟨w.heap.size, 8, none⟩ = some (.slice a8 m.K.length k8) ∧ W.cell? ⟨w.heap.size, 10, none⟩ = some (.slice a10 m.C.length k10)) (first | go_keep) (fail)
    all_goals (go_wp2_with fail; go_meet)
    all_goals exact ⟨rfl, 1, rfl⟩
  case rest =>
    obtain ⟨rfl, q, hq⟩ := hcut
    have hb2 : Below w1.heap.size w1 wc := by rw [hq]; exact below_drewN ((Below.refl _ _).alloc (Nat.le_refl _) _)
    have hO2 : OB 55 w1.heap.size m.half m.old m.card (.slice a3 m.W.length k3) m.used m.top m.oldTop (.slice a7 m.R.length k7) (.slice a8 m.K.length k8) (.slice none 0 0) (.slice a10 m.C.length k10) wc := by rw [hq]; exact heap_alloc_new w1 _
    clear hq q c0 c1 c2 c3 c4 c5 c6 c7 c8 c10
    have HB2 := toHid hb2
    have HO2 := toHid hO2
    clear hb2 hO2
    go_wp2_with fail
    go_loopg [5] (m.I.length + 1) (fun gk v5 wr => ∃ (k : Nat) (a : Option Addr) (ca : Nat), gk = m.I.length + 1 - k ∧ k ≤ m.I.length ∧ v5 = .int .i64 (k : Int) ∧ Below w1.heap.size w1 wr ∧ OB 55 w1.heap.size m.half m.old m.card (.slice a3 m.W.length k3) m.used m.top m.oldTop (.slice a7 m.R.length k7) (.slice a8 m.K.length k8) (.slice a k ca) (.slice a10 m.C.length k10) wr ∧ wr.ownsRow (w1.heap.size + 1) 64 2 (.slice a k ca) k (idsV (m.I.take k)))
    case atStart => exact ⟨0, none, 0, rfl, Nat.zero_le _, rfl, HB2.out, HO2.out, by simp [idsV], .inl ⟨rfl, rfl⟩⟩
    case round =>
      obtain ⟨k, a, ca, hgk, hk, hv5, hb, hO, hR⟩ := hrel
      subst hv5
      have HG := toHid hgk
      clear hgk
      have z9 := (hb.cell (p := ⟨w.heap.size, 9, none⟩) hl1).trans c9
      by_cases hlt : k < m.I.length
      · have hI : (k : Int) < (m.I.length : Int) := by omega
        have hI0 : (0 : Int) ≤ (k : Int) := by omega
        obtain ⟨x, hx⟩ : ∃ x, m.I[k]? = some x := ⟨_, List.getElem?_eq_getElem hlt⟩
        obtain ⟨_, _, e, _, f1⟩ := R9.out
        cases e
        obtain ⟨p1, o1, rfl, l1, g1⟩ := f1 (by omega)
        have r1 : wr.cell? ⟨p1, o1 + k * 2, none⟩ = some (.int .u64 x.1) := (hb.cell (p := ⟨p1, o1 + k * 2, none⟩) l1).trans (g1 _ _ (ids_at hx).1)
        have r2 : wr.cell? ⟨p1, o1 + k * 2 + 1, none⟩ = some (.int .i64 x.2) := (hb.cell (p := ⟨p1, o1 + k * 2 + 1, none⟩) l1).trans (by rw [Nat.add_assoc]; exact g1 _ _ (ids_at hx).2)
        obtain ⟨⟨y0, y1, y2, y3, y4, y5, y6, y7, y8, y9, y10⟩, yf⟩ := hO.mem
        have yf9 := yf 9
        have HR := toHid hR
        have HO := toHid hO
        have HB := toHid hb
        have HX := toHid hx
        have hlx := lt_of_heap hO
        have hsz := hb.size
        obtain ⟨i0, hi0, hz0, hz1, hz2⟩ := infoMID
        clear f1 g1 hx hR hO yf hb y0 y1 y2 y3 y4 y5 y6 y7 y8 y10
        go_upto_region 8 with fail
        go_region_law (first | (refine step_append_lies _ (by rfl) _ _ _ (by rfl) (w1.heap.size + 1) 64 i0 (.agg #[.int .u64 0, .int .i64 0]) 2 16 Tryz.underlying53 hi0 hz0 hz1 hz2 rfl (by decide) (.slice a k ca) k (idsV (m.I.take k)) rfl (by first | exact ownsRow_far' HR.out (fun g hg => heap_alloc_old _ _ _ (own_lt2 HR.out g hg).2)) ⟨wr.heap.size, 0, none⟩ 1 1 [.int .u64 x.1, .int .i64 x.2] rfl rfl (World.news_of_block (cs := #[.int .u64 x.1, .int .i64 x.2]) (t := 64) (heap_alloc_new _ _)) two_one (by decide) (by unfold maxLen; omega) (by omega) (by simp; omega) _ rfl ?_; intro g' cap' w2 hown2 hgrow2 hat2 hlt2; obtain ⟨hO2, hO3, hR3, hB3⟩ := ids_next HB.out (Nat.le_refl _) HO.out HR.out (((Below.refl _ _).alloc (Nat.le_refl _) _).drew) hgrow2 hown2; obtain ⟨⟨q0, q1, q2, q3, q4, q5, q6, q7, q8, q9, q10⟩, qf⟩ := OB.mem hO2; have qf9 := qf 9; have HO3 := toHid hO3; have HR3 := toHid hR3; have HB3 := toHid hB3; clear hown2 hgrow2 hat2 hlt2 hO2 hO3 hR3 hB3 qf q0 q1 q2 q3 q4 q5 q6 q7 q8 q10))
        all_goals go_wp2_with fail
        all_goals go_roundg (m.I.length + 1 - (k + 1))
        all_goals (first | (have := HG.out; omega) | exact ⟨k + 1, some ⟨g', 0, none⟩, cap', rfl, by omega, by go_num, HB3.out, HO3.out, by rw [ids_take HX.out]; exact HR3.out⟩)
      · obtain rfl : k = m.I.length := by omega
        have HO := toHid hO
        have HR := toHid hR
        clear hO hR
        go_wp2_with fail
        go_ret
        rw [List.take_length] at HR
        have hz1 := hb1.size
        have nI : ∀ g, (Value.slice a m.I.length ca).ownBlock = some g → w1.heap.size + 1 ≤ g := fun g hg => (own_lt2 HR.out g hg).1
        have lt3 : ∀ g, (Value.slice a3 m.W.length k3).ownBlock = some g → g < t1 := S3.out.2
        have lt7 : ∀ g, (Value.slice a7 m.R.length k7).ownBlock = some g → t1 ≤ g ∧ g < t2 := fun g hg => ⟨(own_lt2 S7.out.1 g hg).1, S7.out.2 g hg⟩
        have lt8 : ∀ g, (Value.slice a8 m.K.length k8).ownBlock = some g → t2 ≤ g ∧ g < t3 := fun g hg => ⟨(own_lt2 S8.out.1 g hg).1, S8.out.2 g hg⟩
        have lt10 : ∀ g, (Value.slice a10 m.C.length k10).ownBlock = some g → t4 ≤ g ∧ g < t5 := fun g hg => ⟨(own_lt2 S10.out.1 g hg).1, S10.out.2 g hg⟩
        refine ⟨w1.heap.size, rfl, ⟨_, _, _, _, _, hb1.size, HO.out, rowIn_far S3.out hb (by omega), rowIn_far S7.out hb (by omega), rowIn_far S8.out hb (by omega), ownsRow_lo HR.out (by omega), rowIn_far S10.out hb (by omega), ?_, ?_, ?_⟩, hb1.trans (hb.mono hb1.size)⟩
        · intro v hv e
          simp only [List.mem_cons, List.not_mem_nil, or_false] at hv
          rcases hv with rfl | rfl | rfl | rfl | rfl
          · have := lt3 _ e; omega
          · have := lt7 _ e; omega
          · have := lt8 _ e; omega
          · have := nI _ e; omega
          · have := lt10 _ e; omega
        · intro v hv g hg e
          have := lt3 _ hg
          simp only [List.mem_cons, List.not_mem_nil, or_false] at hv
          rcases hv with rfl | rfl | rfl | rfl
          · have := lt7 _ e; omega
          · have := lt8 _ e; omega
          · have := nI _ e; omega
          · have := lt10 _ e; omega
        · intro v hv g hg e
          have := lt10 _ hg
          simp only [List.mem_cons, List.not_mem_nil, or_false] at hv
          rcases hv with rfl | rfl | rfl | rfl
          · have := lt3 _ e; omega
          · have := lt7 _ e; omega
          · have := lt8 _ e; omega
          · have := nI _ e; omega
end Go.Proofs.YtnenggkgfhgcnaaGreatDoor
